/- What FnReach needs of values: times and radii of what has been drawn. No condition but that it has been drawn. -/
import Derived.Test.YthklihenghnaeaaReachS
import Derived.Test.YthklihenghnaeaaNm2
import Derived.Test.YthklihenghnaeaaBytes
namespace Go.Proofs.Ythklihenghnaeaa
open Go Go.RowKit Ieee

theorem radN_first (f : Int → Bool) : ∀ (m : Nat) (x : Int), radN f m x ≤ m ∧ (∀ n : Nat, n < radN f m x → f (x + n) = true) ∧ (radN f m x < m → f (x + (radN f m x : Nat)) = false)
  | 0, x => ⟨Nat.le_refl _, fun n hn => absurd hn (by simp [radN]), fun h => absurd h (by simp [radN])⟩
  | m + 1, x => by
    cases hf : f x
    · have e : radN f (m + 1) x = 0 := by simp [radN, hf]
      rw [e]
      exact ⟨by omega, fun n hn => absurd hn (by omega), fun _ => by simpa using hf⟩
    · have e : radN f (m + 1) x = radN f m (x + 1) + 1 := by simp [radN, hf]
      obtain ⟨h1, h2, h3⟩ := radN_first f m (x + 1)
      rw [e]
      refine ⟨by omega, fun n hn => ?_, fun h => ?_⟩
      · cases n with
        | zero => simpa using hf
        | succ n =>
          have := h2 n (by omega)
          rwa [show x + ((n + 1 : Nat) : Int) = x + 1 + (n : Int) by omega]
      · have := h3 (by omega)
        rwa [show x + ((radN f m (x + 1) + 1 : Nat) : Int) = x + 1 + (radN f m (x + 1) : Nat) by omega]
/-- What is asked of what has been drawn. -/
theorem ask_drawn {i j a b k : Nat} (hi : i < 800) (hj : j < 500) (ha : a < 6) (hb : b < 6) (hk : k < 900) (x y t : Int) (hx : plB x = true) (hy : plB y = true) (ht : tmB t = true) :
    askV (aqT i) (aqS j) a b (rtV k) x y [t] = 0 := by
  simp [askV, aq_drawn hi hj, we_drawn ha hb hk, hx, hy, ht]
theorem drawn_lt {i j : Nat} (hi : i < 800) (hj : j < 500) : aqT i < 4294967296 ∧ aqS j < 4294967296 :=
  ⟨Nat.lt_of_le_of_lt (qT_ok i hi).2.2 (by decide), Nat.lt_of_le_of_lt (qS_ok j hj).2.2 (by decide)⟩
/-- Two rows are loaded again and again. -/
theorem rows_kept {w w' : World} {A B : Nat} {ca cb : Array Value} {ta tb : TypeId} (hA : w.heap[A]? = some (.cells ca ta (0, 0))) (hB : w.heap[B]? = some (.cells cb tb (0, 0))) (h : Below w.heap.size w w') :
    w'.heap[A]? = some (.cells ca ta (0, 0)) ∧ w'.heap[B]? = some (.cells cb tb (0, 0)) := by
  have lt : ∀ {k : Nat} {o : Obj}, w.heap[k]? = some o → k < w.heap.size := fun {k o} hk => by
    rcases Nat.lt_or_ge k w.heap.size with h1 | h1
    · exact h1
    · rw [Array.getElem?_eq_none h1] at hk; cases hk
  exact ⟨(h.block A (lt hA)).trans hA, (h.block B (lt hB)).trans hB⟩
end Go.Proofs.Ythklihenghnaeaa
