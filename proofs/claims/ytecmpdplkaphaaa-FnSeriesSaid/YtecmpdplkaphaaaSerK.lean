/- Tables of FnSeries: powers of two, and numbers up to 40. No condition. -/
import Derived.Test.YtecmpdplkaphaaaWell
import Derived.Test.YtecmpdplkaphaaaNm
namespace Go.Proofs.Ytecmpdplkaphaaa
open Go Go.RowKit Ieee

def c2 : Nat := ((lnV 1073741824).getD 0)
/-- 2 to the power i - 60. -/
def pwK (i : Nat) : Nat := 562036736 + i * 8388608
def lvK (i : Nat) : Nat := (lnV (pwK i)).getD 0
theorem lnTwo : lnoV 1073741824 = (some c2, 0) := by decide +kernel
theorem exZero : exoV 0 = (some 1065353216, 0) := by decide +kernel
theorem pw_ok : ∀ i, i < 121 → lnoV (pwK i) = (some (lvK i), 0) ∧ fop .f32 .mul (num .f32 (floatOfInt .f32 ((i : Nat) - 60 : Int))) (num .f32 c2) = some (lvK i) ∧ FloatKind.f32.format.order (lvK i) (lvK i) = some Ordering.eq := by decide +kernel
def uK (i : Nat) : Nat := qv (1 + (i : Nat) : Int) 1124073472
def eK (i : Nat) : Nat := (expV (uK i)).getD 0
def ukP (i : Nat) : Prop := fop .f32 .quo (num .f32 (floatOfInt .f32 (1 + (i : Nat) : Int))) (num .f32 1124073472) = some (uK i) ∧ lnB (uK i) = true ∧ exB (uK i) = true ∧ wfB (uK i) = true ∧ uK i < 4294967296
instance (i : Nat) : Decidable (ukP i) := by unfold ukP; infer_instance
theorem uk_0 : ∀ a, a < 40 → ∀ b, b < 25 → ukP (0 + 25 * a + b) := by decide +kernel
theorem uk_1 : ∀ a, a < 40 → ∀ b, b < 25 → ukP (1000 + 25 * a + b) := by decide +kernel
theorem uk_2 : ∀ a, a < 40 → ∀ b, b < 25 → ukP (2000 + 25 * a + b) := by decide +kernel
theorem uk_3 : ∀ a, a < 40 → ∀ b, b < 25 → ukP (3000 + 25 * a + b) := by decide +kernel
theorem uk_4 : ∀ a, a < 40 → ∀ b, b < 25 → ukP (4000 + 25 * a + b) := by decide +kernel
theorem uk_ok (i : Nat) (hi : i < 5000) : ukP i := by
  by_cases h0 : i < 1000
  · have h := uk_0 ((i - 0) / 25) (by omega) ((i - 0) % 25) (by omega)
    rwa [show 0 + 25 * ((i - 0) / 25) + (i - 0) % 25 = i by omega] at h
  by_cases h1 : i < 2000
  · have h := uk_1 ((i - 1000) / 25) (by omega) ((i - 1000) % 25) (by omega)
    rwa [show 1000 + 25 * ((i - 1000) / 25) + (i - 1000) % 25 = i by omega] at h
  by_cases h2 : i < 3000
  · have h := uk_2 ((i - 2000) / 25) (by omega) ((i - 2000) % 25) (by omega)
    rwa [show 2000 + 25 * ((i - 2000) / 25) + (i - 2000) % 25 = i by omega] at h
  by_cases h3 : i < 4000
  · have h := uk_3 ((i - 3000) / 25) (by omega) ((i - 3000) % 25) (by omega)
    rwa [show 3000 + 25 * ((i - 3000) / 25) + (i - 3000) % 25 = i by omega] at h
  have h := uk_4 ((i - 4000) / 25) (by omega) ((i - 4000) % 25) (by omega)
  rwa [show 4000 + 25 * ((i - 4000) / 25) + (i - 4000) % 25 = i by omega] at h
end Go.Proofs.Ytecmpdplkaphaaa
