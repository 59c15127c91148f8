/- Tables: what the model draws is valid. No condition. -/
import Derived.Test.YthklihenghnaeaaDraw
import Derived.Test.YthklihenghnaeaaSite
import Derived.Test.YthklihenghnaeaaOk
import Derived.Test.YthklihenghnaeaaAqV
namespace Go.Proofs.Ythklihenghnaeaa
open Go Go.RowKit Ieee

theorem aqT_ok : ∀ i, i < 800 → (geB (aqT i) 981467136 && leBB (aqT i) 1233125376) = true := by decide +kernel
theorem aqS_ok : ∀ i, i < 500 → (geB (aqS i) 897581056 && leBB (aqS i) 1065353216) = true := by decide +kernel
theorem aq_drawn {i j : Nat} (hi : i < 800) (hj : j < 500) : aqB (aqT i) (aqS j) = true := by
  have h1 := aqT_ok i hi
  have h2 := aqS_ok j hj
  simp only [Bool.and_eq_true] at h1 h2
  simp [aqB, h1.1, h1.2, h2.1, h2.2]
theorem rt_plain : ∀ i, i < 900 → pnB (rtV i) = true := by decide +kernel
theorem we_drawn {a b i : Nat} (ha : a < 6) (hb : b < 6) (hi : i < 900) : weB a b (rtV i) = true := by
  have := rt_plain i hi
  simp only [weB, plB, this, Bool.and_true, Bool.and_eq_true, decide_eq_true_eq]
  omega
/-- A level that FnReach asks of: a drawn number over 16. -/
def lvV (i : Nat) : Nat := (fop .f32 .quo (num .f32 (nmV i)) (num .f32 1098907648)).getD 0
theorem lv_ok2 : ∀ a, a < 81 → ∀ b, b < 80 → fop .f32 .quo (num .f32 (nmV (80 * a + b))) (num .f32 1098907648) = some (lvV (80 * a + b)) ∧ pnB (lvV (80 * a + b)) = true := by
  decide +kernel
theorem lv_ok (i : Nat) (hi : i < 6401) : fop .f32 .quo (num .f32 (nmV i)) (num .f32 1098907648) = some (lvV i) ∧ pnB (lvV i) = true := by
  have h := lv_ok2 (i / 80) (by omega) (i % 80) (by omega)
  rw [show 80 * (i / 80) + i % 80 = i by omega] at h
  exact h
end Go.Proofs.Ythklihenghnaeaa
