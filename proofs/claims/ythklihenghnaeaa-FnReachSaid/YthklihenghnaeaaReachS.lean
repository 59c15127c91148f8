/- What FnReach needs of values: the first time of which something holds. No condition. -/
import Derived.Test.YthklihenghnaeaaRa
import Derived.Test.YthklihenghnaeaaSite
namespace Go.Proofs.Ythklihenghnaeaa
open Go Go.RowKit Ieee

theorem untilT_none (f : Int → Bool) : ∀ (n : Nat) (t : Int), (∀ k : Int, t ≤ k → k < t + n → f k = false) → untilT f n t = (0, 6)
  | 0, _, _ => rfl
  | n + 1, t, h => by
    rw [untilT, if_neg (by rw [h t (by omega) (by omega)]; simp)]
    exact untilT_none f n (t + 1) fun k h1 h2 => h k (by omega) (by omega)
/-- Either there is none, or it is the first one. -/
theorem untilT_first (f : Int → Bool) : ∀ (n : Nat) (t : Int), (untilT f n t = (0, 6) ∧ ∀ k : Int, t ≤ k → k < t + n → f k = false) ∨ ∃ u : Int, untilT f n t = (u, 0) ∧ t ≤ u ∧ u < t + n ∧ f u = true ∧ ∀ k : Int, t ≤ k → k < u → f k = false
  | 0, t => .inl ⟨rfl, fun k h1 h2 => absurd h2 (by omega)⟩
  | n + 1, t => by
    cases hf : f t
    · rw [untilT, if_neg (by rw [hf]; simp)]
      rcases untilT_first f n (t + 1) with ⟨h, ha⟩ | ⟨u, h, h1, h2, h3, h4⟩
      · refine .inl ⟨h, fun k k1 k2 => ?_⟩
        by_cases hk : k = t
        · rw [hk, hf]
        · exact ha k (by omega) (by omega)
      · refine .inr ⟨u, h, by omega, by omega, h3, fun k k1 k2 => ?_⟩
        by_cases hk : k = t
        · rw [hk, hf]
        · exact h4 k (by omega) k2
    · rw [untilT, if_pos hf]
      exact .inr ⟨t, rfl, by omega, by omega, hf, fun k k1 k2 => absurd k2 (by omega)⟩
end Go.Proofs.Ythklihenghnaeaa
