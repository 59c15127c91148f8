/- The series: the exponential and the well function, the program's and the model's. No condition but that numbers are those that are asked for. -/
import Derived.Test.YtdhgehmnjoclaaaLn
namespace Go.Proofs.Ytdhgehmnjoclaaa
open Go Go.RowKit Ieee
set_option linter.unusedSimpArgs false
set_option linter.unusedVariables false

def sqN (p : Option Nat) : Nat → Option Nat
  | 0 => p
  | k + 1 => fop .f32 .mul (sqN p k) (sqN p k)
def exP (v : Option Nat) : Option Nat := pStep v (pStep v (pStep v (num .f32 1042983595) (num .f32 1056964608)) (num .f32 1065353216)) (num .f32 1065353216)
/-- e to the power -u, up to which NaN it is. -/
def expV (u : Nat) : Option Nat := fop .f32 .quo (num .f32 1065353216) (sqN (exP (fop .f32 .quo (num .f32 u) (num .f32 1132462080))) 8)

theorem polyV_num (q : Nat) (o p : Option Nat) (cs : List Nat) (h : num .f32 q = o) : polyV (num .f32 q) p cs = polyV o p cs := by rw [h]

/-- Taking away is adding the opposite. -/
theorem sub_neg32 (x : Option Nat) (c d : Nat) (hc : nanK .f32 c = false) (hd : nanK .f32 d = false) (h : (single.read c).opposite = single.read d) : fop .f32 .sub x (num .f32 c) = fop .f32 .add x (num .f32 d) := by
  rw [num_some hc, num_some hd]
  cases x with
  | none => rfl
  | some a =>
    show Format.sub single a c = Format.add single a d
    unfold Format.sub Format.add
    rw [h]
def serH (u : Option Nat) : Option Nat := pStep u (pStep u (pStep u (pStep u (num .f32 987395086) (num .f32 3156912811)) (num .f32 1029934649)) (num .f32 3196059648)) (num .f32 1065353216)
/-- The well function of a small number. -/
def serV (u : Nat) : Option Nat := fop .f32 .add (fop .f32 .sub (num .f32 3205743720) (lnV u)) (fop .f32 .mul (serH (num .f32 u)) (num .f32 u))
def kb (n : Nat) : Nat := floatOfInt .f32 (8 - (n : Int))
def fraTo (u : Option Nat) : Nat → Option Nat
  | 0 => u
  | n + 1 => fop .f32 .add u (fop .f32 .quo (num .f32 (kb n)) (fop .f32 .add (num .f32 1065353216) (fop .f32 .quo (num .f32 (kb n)) (fraTo u n))))
/-- The well function of a greater one. -/
def fraV (u : Nat) : Option Nat := fop .f32 .quo (expV u) (fraTo (num .f32 u) 8)
def wellV (u : Nat) : Option Nat := if u ≤ 1065353216 then serV u else fraV u
theorem leB_pos {a b : Nat} (h1 : 8388608 ≤ a) (h2 : a < 2139095040) (h3 : 8388608 ≤ b) (h4 : b < 2139095040) : (FloatKind.f32.format.order a b == some Ordering.lt || FloatKind.f32.format.order a b == some Ordering.eq) = decide (a ≤ b) := by
  rw [ord_pos h1 h2 h3 h4]
  rcases Nat.lt_trichotomy a b with h | h | h
  · have : compare a b = .lt := by simp only [compare, compareOfLessAndEq]; rw [if_pos h]
    rw [this]; simp; omega
  · have : compare a b = .eq := by simp only [compare, compareOfLessAndEq]; rw [if_neg (by omega), if_pos h]
    rw [this]; simp; omega
  · have : compare a b = .gt := by simp only [compare, compareOfLessAndEq]; rw [if_neg (by omega), if_neg (by omega)]
    rw [this]; simp; omega
theorem gtB_pos {a b : Nat} (h1 : 8388608 ≤ a) (h2 : a < 2139095040) (h3 : 8388608 ≤ b) (h4 : b < 2139095040) : (FloatKind.f32.format.order a b == some Ordering.gt) = decide (b < a) := by
  rw [ord_pos h1 h2 h3 h4]
  rcases Nat.lt_trichotomy a b with h | h | h
  · have : compare a b = .lt := by simp only [compare, compareOfLessAndEq]; rw [if_pos h]
    rw [this]; simp; omega
  · have : compare a b = .eq := by simp only [compare, compareOfLessAndEq]; rw [if_neg (by omega), if_pos h]
    rw [this]; simp; omega
  · have : compare a b = .gt := by simp only [compare, compareOfLessAndEq]; rw [if_neg (by omega), if_neg (by omega)]
    rw [this]; simp; omega
def fltOf : Value → Nat
  | .float _ b => b
  | _ => 0
theorem kb_less : ∀ n, n < 8 → kb (n + 1) < kb n := by decide +kernel
theorem kb_step : ∀ n, n < 8 → fop .f32 .sub (num .f32 (kb n)) (num .f32 1065353216) = some (kb (n + 1)) := by decide +kernel
theorem kb_ge : ∀ n, n < 8 → (FloatKind.f32.format.order (kb n) 1065353216 == some Ordering.gt || FloatKind.f32.format.order (kb n) 1065353216 == some Ordering.eq) = true := by decide +kernel
theorem kb_end : (FloatKind.f32.format.order (kb 8) 1065353216 == some Ordering.gt || FloatKind.f32.format.order (kb 8) 1065353216 == some Ordering.eq) = false := by decide +kernel

end Go.Proofs.Ytdhgehmnjoclaaa
