/- The logarithm: the program's and the model's, for every number that is asked for. No condition but that. -/
import Derived.Test.YtdhgehmnjoclaaaTwo
namespace Go.Proofs.Ytdhgehmnjoclaaa
open Go Go.RowKit Ieee
set_option linter.unusedSimpArgs false
set_option linter.unusedVariables false

/-- A number that is told, up to which NaN it is; only answers have been drawn. -/
def GvN (o : Option Nat) (w : World) (e : Ending) (w' : World) : Prop := ∃ r, e = .returned (.float .f32 r) ∧ num .f32 r = o ∧ Quiet w w'
/-- The same; what was there is as it was. -/
def GvB (o : Option Nat) (w : World) (e : Ending) (w' : World) : Prop := ∃ r, e = .returned (.float .f32 r) ∧ num .f32 r = o ∧ Below w.heap.size w w'

theorem half_fop {m : Nat} (h1 : 16777216 ≤ m) (h2 : m < 2139095040) : fop .f32 .quo (num .f32 m) (num .f32 1073741824) = some (m - 8388608) := by rw [fop_num]; exact half_div h1 h2
theorem twice_fop {m : Nat} (h1 : 8388608 ≤ m) (h2 : m < 2130706432) : fop .f32 .mul (num .f32 m) (num .f32 1073741824) = some (m + 8388608) := by rw [fop_num]; exact twice_mul h1 h2
theorem ord_pos {a b : Nat} (h1 : 8388608 ≤ a) (h2 : a < 2139095040) (h3 : 8388608 ≤ b) (h4 : b < 2139095040) : FloatKind.f32.format.order a b = some (compare a b) := pos_order h1 h2 h3 h4
theorem ge_pos {a b : Nat} (h1 : 8388608 ≤ a) (h2 : a < 2139095040) (h3 : 8388608 ≤ b) (h4 : b < 2139095040) : (FloatKind.f32.format.order a b == some Ordering.gt || FloatKind.f32.format.order a b == some Ordering.eq) = decide (b ≤ a) := by
  rw [ord_pos h1 h2 h3 h4]
  rcases Nat.lt_trichotomy a b with h | h | h
  · have : compare a b = .lt := by simp only [compare, compareOfLessAndEq]; rw [if_pos h]
    rw [this]; simp; omega
  · have : compare a b = .eq := by simp only [compare, compareOfLessAndEq]; rw [if_neg (by omega), if_pos h]
    rw [this]; simp; omega
  · have : compare a b = .gt := by simp only [compare, compareOfLessAndEq]; rw [if_neg (by omega), if_neg (by omega)]
    rw [this]; simp; omega
theorem lt_pos {a b : Nat} (h1 : 8388608 ≤ a) (h2 : a < 2139095040) (h3 : 8388608 ≤ b) (h4 : b < 2139095040) : (FloatKind.f32.format.order a b == some Ordering.lt) = decide (a < b) := by
  rw [ord_pos h1 h2 h3 h4]
  rcases Nat.lt_trichotomy a b with h | h | h
  · have : compare a b = .lt := by simp only [compare, compareOfLessAndEq]; rw [if_pos h]
    rw [this]; simp; omega
  · have : compare a b = .eq := by simp only [compare, compareOfLessAndEq]; rw [if_neg (by omega), if_pos h]
    rw [this]; simp; omega
  · have : compare a b = .gt := by simp only [compare, compareOfLessAndEq]; rw [if_neg (by omega), if_neg (by omega)]
    rw [this]; simp; omega

/-- How often a number is halved. -/
def lnUp (b : Nat) : Nat := if 1069547520 ≤ b then (b - 1069547520) / 8388608 + 1 else 0
/-- How often it is doubled then. -/
def lnDn (m : Nat) : Nat := if m < 1061158912 then (1061158911 - m) / 8388608 + 1 else 0
def lnM (b : Nat) : Nat := (b - lnUp b * 8388608) + lnDn (b - lnUp b * 8388608) * 8388608
def lnE (b : Nat) : Int := (lnUp b : Int) - (lnDn (b - lnUp b * 8388608) : Int)
/-- One step of a polynomial. -/
def pStep (q p c : Option Nat) : Option Nat := fop .f32 .add (fop .f32 .mul p q) c
/-- What comes of m. -/
def lnT (m : Nat) : Option Nat := fop .f32 .quo (fop .f32 .sub (num .f32 m) (num .f32 1065353216)) (fop .f32 .add (num .f32 m) (num .f32 1065353216))
def lnP (t : Option Nat) : Option Nat := pStep (fop .f32 .mul t t) (pStep (fop .f32 .mul t t) (pStep (fop .f32 .mul t t) (num .f32 1041385765) (num .f32 1045220557)) (num .f32 1051372203)) (num .f32 1065353216)
def lnW (m : Nat) (e : Int) : Option Nat := fop .f32 .add (fop .f32 .mul (num .f32 (floatOfInt .f32 e)) (num .f32 1060205080)) (fop .f32 .mul (num .f32 1073741824) (fop .f32 .mul (lnT m) (lnP (lnT m))))
def lnV (b : Nat) : Option Nat := lnW (lnM b) (lnE b)

theorem product_comm (x y : Datum) : x.product y = y.product x := by
  cases x <;> cases y <;> simp [Datum.product, Bool.xor_comm, Nat.mul_comm, Int.add_comm]
theorem mul_comm32 (x y : Option Nat) : fop .f32 .mul x y = fop .f32 .mul y x := by
  cases x <;> cases y <;> simp [fop]
  show Format.mul single _ _ = Format.mul single _ _
  unfold Format.mul
  rw [product_comm]
theorem Quiet.drw {w w1 : World} (h : Quiet w w1) (n : Nat) : Quiet w (w1.drewN n) := h.drewN n
def geB (x c : Nat) : Bool := FloatKind.f32.format.order x c == some Ordering.gt || FloatKind.f32.format.order x c == some Ordering.eq
def ltB (x c : Nat) : Bool := FloatKind.f32.format.order x c == some Ordering.lt
/-- The numbers that both loops of the logarithm go through. -/
structure LnRun (f g : Nat → Nat) (U D : Nat) : Prop where
  up : ∀ n, n < U → geB (f n) 1069547520 = true
  half : ∀ n, n < U → fop .f32 .quo (num .f32 (f n)) (num .f32 1073741824) = some (f (n + 1))
  stop : geB (f U) 1069547520 = false
  mid : g 0 = f U
  dn : ∀ d, d < D → ltB (g d) 1061158912 = true
  twice : ∀ d, d < D → fop .f32 .mul (num .f32 (g d)) (num .f32 1073741824) = some (g (d + 1))
  halt : ltB (g D) 1061158912 = false
  few : U < 1000
  few2 : D < 1000

/-- A polynomial's value: the coefficients behind the first one. -/
def polyV (q : Option Nat) (p : Option Nat) (cs : List Nat) : Option Nat := cs.foldl (fun p c => pStep q p (num .f32 c)) p
theorem polyV_take (q p : Option Nat) (cs : List Nat) (k : Nat) (h : k < cs.length) : polyV q p (cs.take (k + 1)) = pStep q (polyV q p (cs.take k)) (num .f32 cs[k]) := by
  unfold polyV
  rw [List.take_succ_eq_append_getElem h, List.foldl_append]
  rfl

theorem lnUp_is (b : Nat) (h1 : 562036736 ≤ b) (h2 : b ≤ 1568669696) : lnUp b ≤ 60 ∧ (∀ n, n < lnUp b → 1069547520 ≤ b - n * 8388608) ∧ b - lnUp b * 8388608 < 1069547520 ∧ 562036736 ≤ b - lnUp b * 8388608 := by
  unfold lnUp
  split
  · refine ⟨by omega, fun n hn => by omega, by omega, by omega⟩
  · refine ⟨by omega, fun n hn => by omega, by omega, by omega⟩
theorem lnDn_is (m : Nat) (h1 : 562036736 ≤ m) (h2 : m < 1069547520) : lnDn m ≤ 60 ∧ (∀ d, d < lnDn m → m + d * 8388608 < 1061158912) ∧ 1061158912 ≤ m + lnDn m * 8388608 ∧ m + lnDn m * 8388608 < 1069547520 := by
  unfold lnDn
  split
  · refine ⟨by omega, fun n hn => by omega, by omega, by omega⟩
  · refine ⟨by omega, fun n hn => by omega, by omega, by omega⟩
theorem geB_pos {a b : Nat} (h1 : 8388608 ≤ a) (h2 : a < 2139095040) (h3 : 8388608 ≤ b) (h4 : b < 2139095040) : geB a b = decide (b ≤ a) := ge_pos h1 h2 h3 h4
theorem ltB_pos {a b : Nat} (h1 : 8388608 ≤ a) (h2 : a < 2139095040) (h3 : 8388608 ≤ b) (h4 : b < 2139095040) : ltB a b = decide (a < b) := lt_pos h1 h2 h3 h4
theorem lnRun (b : Nat) (h1 : 562036736 ≤ b) (h2 : b ≤ 1568669696) (f g : Nat → Nat) (hf : ∀ n, f n = b - n * 8388608) (hg : ∀ d, g d = b - lnUp b * 8388608 + d * 8388608) : LnRun f g (lnUp b) (lnDn (b - lnUp b * 8388608)) := by
  obtain ⟨u1, u2, u3, u4⟩ := lnUp_is b h1 h2
  generalize lnUp b = U at u1 u2 u3 u4 hg ⊢
  obtain ⟨m, hm⟩ : ∃ m, b - U * 8388608 = m := ⟨_, rfl⟩
  rw [hm] at u3 u4 ⊢
  obtain ⟨d1, d2, d3, d4⟩ := lnDn_is m u4 u3
  generalize lnDn m = D at d1 d2 d3 d4 ⊢
  refine ⟨?_, ?_, ?_, ?_, ?_, ?_, ?_, by omega, by omega⟩
  · intro n hn
    have k := u2 n hn
    have e := hf n
    generalize f n = x at e ⊢
    rw [geB_pos (by omega) (by omega) (by omega) (by omega)]
    exact decide_eq_true (by omega)
  · intro n hn
    have k := u2 n hn
    have e := hf n
    have e2 := hf (n + 1)
    have e3 : f (n + 1) = f n - 8388608 := by omega
    rw [e3]
    generalize f n = x at e ⊢
    exact half_fop (by omega) (by omega)
  · have e := hf U
    generalize f U = x at e ⊢
    rw [geB_pos (by omega) (by omega) (by omega) (by omega)]
    exact decide_eq_false (by omega)
  · have e := hf U
    have e2 := hg 0
    omega
  · intro d hd
    have k := d2 d hd
    have e := hg d
    generalize g d = x at e ⊢
    rw [ltB_pos (by omega) (by omega) (by omega) (by omega)]
    exact decide_eq_true (by omega)
  · intro d hd
    have k := d2 d hd
    have e := hg d
    have e2 := hg (d + 1)
    have e3 : g (d + 1) = g d + 8388608 := by omega
    rw [e3]
    generalize g d = x at e ⊢
    exact twice_fop (by omega) (by omega)
  · have e := hg D
    generalize g D = x at e ⊢
    rw [ltB_pos (by omega) (by omega) (by omega) (by omega)]
    exact decide_eq_false (by omega)

end Go.Proofs.Ytdhgehmnjoclaaa
