/- The program's well function, and what numbers are asked for. No condition. -/
import Derived.Test.YtdhgehmnjoclaaaSer
namespace Go.Proofs.Ytdhgehmnjoclaaa
open Go Go.RowKit Ieee
set_option linter.unusedSimpArgs false
set_option linter.unusedVariables false

theorem run_store_func (P : Program) (w : World) (a : Addr) (m : Mode) (f : Fn) (x y : Array Value) : (store a (.func f x y) m).run P w = stored P w a (.func f x y) m := run_store P w a _ m rfl
attribute [local go_sem] run_store_func
theorem below_one (t : TypeId) (cs : Array Value) (w : World) : Below w.heap.size w (w.alloc (.cells cs t)) := (Below.refl w.heap.size w).alloc (Nat.le_refl _) _

/-- What is not less than a positive normal number, and not greater than one, is one. -/
theorem in_pos {b lo hi : Nat} (hb : b < 4294967296) (l1 : 8388608 ≤ lo) (l2 : lo < 2139095040) (k1 : 8388608 ≤ hi) (k2 : hi < 2139095040) (h1 : geB b lo = true) (h2 : (FloatKind.f32.format.order b hi == some Ordering.lt || FloatKind.f32.format.order b hi == some Ordering.eq) = true) : lo ≤ b ∧ b ≤ hi := by
  by_cases c1 : b < 8388608
  · exfalso
    have hr : single.read b = .number false b (-149) := by
      have hm : b % 2147483648 = b := Nat.mod_eq_of_lt (by omega)
      have hd : b / 2147483648 = 0 := Nat.div_eq_of_lt (by omega)
      unfold Format.read
      simp only [sg1, sg2, sg3, sg4, hm, hd]
      rw [if_pos c1]
      rfl
    unfold geB at h1
    have : FloatKind.f32.format.order b lo = some Ordering.lt := by
      show Format.order single b lo = _
      unfold Format.order
      rw [hr, norm_read l1 l2]
      unfold Datum.order
      simp only []
      have m1 : (-149 - min (-149) (-149 + ((lo / 8388608 - 1 : Nat) : Int))).toNat = 0 := by omega
      have m2 : (-149 + ((lo / 8388608 - 1 : Nat) : Int) - min (-149) (-149 + ((lo / 8388608 - 1 : Nat) : Int))).toNat = lo / 8388608 - 1 := by omega
      rw [m1, m2]
      unfold signed
      simp only [Bool.false_eq_true, if_false, Nat.shiftLeft_eq]
      have hp := Nat.two_pow_pos (lo / 8388608 - 1)
      have : b * 2 ^ 0 < (8388608 + lo % 8388608) * 2 ^ (lo / 8388608 - 1) := by
        have : (8388608 + lo % 8388608) * 1 ≤ (8388608 + lo % 8388608) * 2 ^ (lo / 8388608 - 1) := Nat.mul_le_mul_left _ hp
        omega
      generalize b * 2 ^ 0 = A at this ⊢
      generalize (8388608 + lo % 8388608) * 2 ^ (lo / 8388608 - 1) = B at this ⊢
      simp only [compare, compareOfLessAndEq]
      rw [if_pos (by omega)]
    rw [this] at h1
    simp at h1
  by_cases c2 : b < 2139095040
  · rw [geB_pos (by omega) c2 l1 l2] at h1
    rw [leB_pos (by omega) c2 k1 k2] at h2
    exact ⟨of_decide_eq_true h1, of_decide_eq_true h2⟩
  exfalso
  by_cases c3 : b < 2147483648
  · have hm : b % 2147483648 = b := Nat.mod_eq_of_lt (by omega)
    have hd : b / 2147483648 = 0 := Nat.div_eq_of_lt (by omega)
    have hr : single.read b = (if b = 2139095040 then .infinity false else .nan false (b - 2139095040)) := by
      unfold Format.read
      simp only [sg1, sg2, sg3, sg4, hm, hd]
      rw [if_neg c1, if_neg c2]
      rfl
    have : FloatKind.f32.format.order b hi = some Ordering.gt ∨ FloatKind.f32.format.order b hi = none := by
      show Format.order single b hi = _ ∨ Format.order single b hi = _
      unfold Format.order
      rw [hr, norm_read k1 k2]
      split
      · exact .inl rfl
      · exact .inr rfl
    rcases this with h | h <;> rw [h] at h2 <;> simp at h2
  · have hn : (single.read b).neg = true := by
      have hd : b / 2147483648 = 1 := by omega
      unfold Format.read
      simp only [sg1, sg2, sg3, sg4, hd]
      repeat' split
      all_goals simp [Datum.neg]
    have : FloatKind.f32.format.order b lo = some Ordering.lt ∨ FloatKind.f32.format.order b lo = none := by
      show Format.order single b lo = _ ∨ Format.order single b lo = _
      unfold Format.order
      rw [norm_read l1 l2]
      cases hr : single.read b with
      | nan s f => exact .inr rfl
      | infinity s =>
        rw [hr] at hn
        simp only [Datum.neg] at hn
        subst hn
        exact .inl rfl
      | number s m i =>
        rw [hr] at hn
        simp only [Datum.neg] at hn
        subst hn
        refine .inl ?_
        unfold Datum.order
        simp only []
        generalize (-149 + ((lo / 8388608 - 1 : Nat) : Int)) = j
        have hp := Nat.two_pow_pos (j - min i j).toNat
        have : 0 < (8388608 + lo % 8388608) * 2 ^ (j - min i j).toNat := Nat.mul_pos (by omega) hp
        unfold signed
        simp only [Bool.false_eq_true, if_false, if_true, Nat.shiftLeft_eq]
        generalize m * 2 ^ (i - min i j).toNat = A
        generalize (8388608 + lo % 8388608) * 2 ^ (j - min i j).toNat = B at this ⊢
        simp only [compare, compareOfLessAndEq]
        rw [if_pos (by omega)]
    unfold geB at h1
    rcases this with h | h <;> rw [h] at h1 <;> simp at h1

set_option maxRecDepth 100000 in
theorem okWide_f32w {W : World} {r : Reach} {base : Nat} {v : Value} (h : Value.okWide Try.prog W r base 33 v) : ∃ b, v = .float .f32 b ∧ b < 4294967296 := by
  simp only [Value.okWide, Try.underlying33, Cell.okWide] at h
  cases v <;> simp_all [Cell.ok, FloatKind.has]
/-- A number and a code. -/
def FR (b : Nat) (n : Int) : Value := .tuple #[.float .f32 b, .int .i64 n]
def GvR (o : Option Nat) (n : Int) (w : World) (e : Ending) (w' : World) : Prop := ∃ r, e = .returned (FR r n) ∧ num .f32 r = o ∧ Below w.heap.size w w'

def leBB (x c : Nat) : Bool := FloatKind.f32.format.order x c == some Ordering.lt || FloatKind.f32.format.order x c == some Ordering.eq
def lnB (u : Nat) : Bool := geB u 562036736 && leBB u 1568669696
def exB (u : Nat) : Bool := geB u 0 && leBB u 1117782016
def wfB (u : Nat) : Bool := geB u 562036736 && leBB u 1117782016
def lnoV (u : Nat) : Option Nat × Int := if lnB u = true then (lnV u, 0) else (num .f32 0, 2)
def exoV (u : Nat) : Option Nat × Int := if exB u = true then (expV u, 0) else (num .f32 0, 2)
def wfoV (u : Nat) : Option Nat × Int := if wfB u = true then (wellV u, 0) else (num .f32 0, 2)

end Go.Proofs.Ytdhgehmnjoclaaa
