/- A table of FnSeries: what e to the power of minus these numbers is. No condition. -/
import Derived.Test.YtecmpdplkaphaaaSerK
namespace Go.Proofs.Ytecmpdplkaphaaa
open Go Go.RowKit Ieee

def ekP (i : Nat) : Prop := expV (uK i) = some (eK i) ∧ FloatKind.f32.format.order (eK i) 0 = some Ordering.gt ∧ (FloatKind.f32.format.order (eK i) 1065353216 == some Ordering.lt || FloatKind.f32.format.order (eK i) 1065353216 == some Ordering.eq) = true
instance (i : Nat) : Decidable (ekP i) := by unfold ekP; infer_instance
theorem ek_0 : ∀ a, a < 20 → ∀ b, b < 25 → ekP (0 + 25 * a + b) := by decide +kernel
theorem ek_1 : ∀ a, a < 20 → ∀ b, b < 25 → ekP (500 + 25 * a + b) := by decide +kernel
theorem ek_2 : ∀ a, a < 20 → ∀ b, b < 25 → ekP (1000 + 25 * a + b) := by decide +kernel
theorem ek_3 : ∀ a, a < 20 → ∀ b, b < 25 → ekP (1500 + 25 * a + b) := by decide +kernel
theorem ek_4 : ∀ a, a < 20 → ∀ b, b < 25 → ekP (2000 + 25 * a + b) := by decide +kernel
theorem ek_5 : ∀ a, a < 20 → ∀ b, b < 25 → ekP (2500 + 25 * a + b) := by decide +kernel
theorem ek_6 : ∀ a, a < 20 → ∀ b, b < 25 → ekP (3000 + 25 * a + b) := by decide +kernel
theorem ek_7 : ∀ a, a < 20 → ∀ b, b < 25 → ekP (3500 + 25 * a + b) := by decide +kernel
theorem ek_8 : ∀ a, a < 20 → ∀ b, b < 25 → ekP (4000 + 25 * a + b) := by decide +kernel
theorem ek_9 : ∀ a, a < 20 → ∀ b, b < 25 → ekP (4500 + 25 * a + b) := by decide +kernel
theorem ek_ok (i : Nat) (hi : i < 5000) : ekP i := by
  by_cases h0 : i < 500
  · have h := ek_0 ((i - 0) / 25) (by omega) ((i - 0) % 25) (by omega)
    rwa [show 0 + 25 * ((i - 0) / 25) + (i - 0) % 25 = i by omega] at h
  by_cases h1 : i < 1000
  · have h := ek_1 ((i - 500) / 25) (by omega) ((i - 500) % 25) (by omega)
    rwa [show 500 + 25 * ((i - 500) / 25) + (i - 500) % 25 = i by omega] at h
  by_cases h2 : i < 1500
  · have h := ek_2 ((i - 1000) / 25) (by omega) ((i - 1000) % 25) (by omega)
    rwa [show 1000 + 25 * ((i - 1000) / 25) + (i - 1000) % 25 = i by omega] at h
  by_cases h3 : i < 2000
  · have h := ek_3 ((i - 1500) / 25) (by omega) ((i - 1500) % 25) (by omega)
    rwa [show 1500 + 25 * ((i - 1500) / 25) + (i - 1500) % 25 = i by omega] at h
  by_cases h4 : i < 2500
  · have h := ek_4 ((i - 2000) / 25) (by omega) ((i - 2000) % 25) (by omega)
    rwa [show 2000 + 25 * ((i - 2000) / 25) + (i - 2000) % 25 = i by omega] at h
  by_cases h5 : i < 3000
  · have h := ek_5 ((i - 2500) / 25) (by omega) ((i - 2500) % 25) (by omega)
    rwa [show 2500 + 25 * ((i - 2500) / 25) + (i - 2500) % 25 = i by omega] at h
  by_cases h6 : i < 3500
  · have h := ek_6 ((i - 3000) / 25) (by omega) ((i - 3000) % 25) (by omega)
    rwa [show 3000 + 25 * ((i - 3000) / 25) + (i - 3000) % 25 = i by omega] at h
  by_cases h7 : i < 4000
  · have h := ek_7 ((i - 3500) / 25) (by omega) ((i - 3500) % 25) (by omega)
    rwa [show 3500 + 25 * ((i - 3500) / 25) + (i - 3500) % 25 = i by omega] at h
  by_cases h8 : i < 4500
  · have h := ek_8 ((i - 4000) / 25) (by omega) ((i - 4000) % 25) (by omega)
    rwa [show 4000 + 25 * ((i - 4000) / 25) + (i - 4000) % 25 = i by omega] at h
  have h := ek_9 ((i - 4500) / 25) (by omega) ((i - 4500) % 25) (by omega)
  rwa [show 4500 + 25 * ((i - 4500) / 25) + (i - 4500) % 25 = i by omega] at h
end Go.Proofs.Ytecmpdplkaphaaa
