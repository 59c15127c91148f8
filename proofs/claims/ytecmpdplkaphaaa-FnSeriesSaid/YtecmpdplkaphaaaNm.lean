/- Tables of the numbers that the model draws. No condition. -/
import Derived.Test.YtecmpdplkaphaaaBase
namespace Go.Proofs.Ytecmpdplkaphaaa
open Go Go.RowKit Ieee

/-- a over d, in single precision. -/
def qv (a : Int) (d : Nat) : Nat := (fop .f32 .quo (num .f32 (floatOfInt .f32 a)) (num .f32 d)).getD 0
theorem qT_ok : ∀ i, i < 800 → fop .f32 .quo (num .f32 (floatOfInt .f32 (1 + (i : Nat) : Int))) (num .f32 1098907648) = some (qv (1 + (i : Nat) : Int) 1098907648) ∧ 981467136 ≤ qv (1 + (i : Nat) : Int) 1098907648 ∧ qv (1 + (i : Nat) : Int) 1098907648 ≤ 1233125376 := by
  decide +kernel
theorem qS_ok : ∀ i, i < 500 → fop .f32 .quo (num .f32 (floatOfInt .f32 (1 + (i : Nat) : Int))) (num .f32 1149239296) = some (qv (1 + (i : Nat) : Int) 1149239296) ∧ 897581056 ≤ qv (1 + (i : Nat) : Int) 1149239296 ∧ qv (1 + (i : Nat) : Int) 1149239296 ≤ 1065353216 := by
  decide +kernel
/-- A number that the model draws: (i - 3200) / 64. -/
def nmV (i : Nat) : Nat := qv ((i : Nat) - 3200 : Int) 1115684864
theorem nm_ok2 : ∀ a, a < 81 → ∀ b, b < 80 → fop .f32 .quo (num .f32 (floatOfInt .f32 ((80 * a + b : Nat) - 3200 : Int))) (num .f32 1115684864) = some (nmV (80 * a + b)) := by
  decide +kernel
theorem nm_ok : ∀ i, i < 6401 → fop .f32 .quo (num .f32 (floatOfInt .f32 ((i : Nat) - 3200 : Int))) (num .f32 1115684864) = some (nmV i) := by
  intro i hi
  have h := nm_ok2 (i / 80) (by omega) (i % 80) (by omega)
  rw [show 80 * (i / 80) + i % 80 = i by omega] at h
  exact h

end Go.Proofs.Ytecmpdplkaphaaa
