/- A list of whole numbers, written over. Condition: at most 2^20 of them. -/
import Derived.Test.YtbiknpfcemfoeaaDoorIs
namespace Go.Proofs.YtbiknpfcemfoeaaDoor
open Go Go.RowKit Ieee
set_option linter.unusedSimpArgs false
set_option linter.unusedVariables false

/-- One round: one number more is written over. -/
theorem markedIb {w wr V : World} {b n k k0 : Nat} (hlt : k < n) (hT : wr.there b 0 n) (hA : ∀ j, j < k → wr.cell? ⟨b, j, none⟩ = some (.int .i64 ((k0 + j : Nat) : Int))) (hB : Below b w wr ∧ wr.heap.size = w.heap.size)
    (hv : V = wr.setCell ⟨b, k, none⟩ (.int .i64 ((k0 + k : Nat) : Int))) :
    V.there b 0 n ∧ (∀ j, j < k + 1 → V.cell? ⟨b, j, none⟩ = some (.int .i64 ((k0 + j : Nat) : Int))) ∧ (Below b w V ∧ V.heap.size = w.heap.size) := by
  have he : V = wr.setCells b k [.int .i64 ((k0 + k : Nat) : Int)] := hv
  subst he
  have ht : wr.there b k 1 := fun j hj => by
    have := hT (k + j) (by omega)
    rwa [Nat.zero_add] at this
  refine ⟨World.there_setCells hT _ _ _, fun j hj => ?_, ⟨below_setCells _ (Nat.le_refl _) _ _ _ hB.1, (size_setCellsW _ _ _ _).trans hB.2⟩⟩
  by_cases hjk : j = k
  · subst hjk
    exact World.rangeAt_setCells_same _ _ _ _ ht 0 _ rfl
  · have hr : wr.rangeAt b j [.int .i64 ((k0 + j : Nat) : Int)] := fun i v hi => by
      have h1 : i < 1 := (List.getElem?_eq_some_iff.1 hi).1
      obtain rfl : i = 0 := by omega
      cases hi
      exact hA j (by omega)
    exact World.rangeAt_setCells_apart hr _ _ _ (.inr (.inl (by simp; omega))) 0 _ rfl
set_option maxRecDepth 100000 in
set_option maxHeartbeats 4000000 in
theorem markInt64S_big (b n c k0 : Nat) (hn : n ≤ 1048576) (hk : k0 ≤ 1048576) (w : World) (ht : w.there b 0 n) :
    Calls Tryd.prog 19 #[.slice (some ⟨b, 0, none⟩) n c, .int .i64 (k0 : Int)] w fun e w' => e = .returned (.int .i64 ((k0 + n : Nat) : Int)) ∧ (∀ i, i < n → w'.cell? ⟨b, i, none⟩ = some (.int .i64 ((k0 + i : Nat) : Int))) ∧ Below b w w' ∧ w'.heap.size = w.heap.size ∧ ∀ x, x ≠ b → w'.heap[x]? = w.heap[x]? := by
  have T0 := Lib.hid ht
  clear ht
  go_enter Tryd.func19, Tryd.ntmps19
  go_wp2
  go_loopw [5, 1] (fun i kk wr => ∃ k : Nat, k ≤ n ∧ i = .int .i64 k ∧ kk = .int .i64 ((k0 + k : Nat) : Int) ∧ Hid (wr.there b 0 n) ∧ Hid (∀ j, j < k → wr.cell? ⟨b, j, none⟩ = some (.int .i64 ((k0 + j : Nat) : Int))) ∧ Hid (Below b w wr ∧ wr.heap.size = w.heap.size) ∧ Hid (∀ x, x ≠ b → wr.heap[x]? = w.heap[x]?)) (fun i _ _ => n - (intOf i).toNat)
  case atStart => exact ⟨0, by omega, rfl, rfl, T0, Lib.hid (fun j hj => absurd hj (by omega)), Lib.hid ⟨Below.refl _ _, rfl⟩, Lib.hid (fun _ _ => rfl)⟩
  case round =>
    obtain ⟨k, hk, rfl, rfl, hT, hA, hB, hF⟩ := hrel
    by_cases hlt : k < n
    · have hki : (k : Int) < n := by omega
      obtain ⟨u0, hu0⟩ := Option.isSome_iff_exists.1 (hT.out k hlt).1
      have f0 := (hT.out k hlt).2
      simp only [Nat.zero_add] at hu0 f0
      go_wp2
      have HC := @markedIb w wr _ b n k k0 hlt hT.out hA.out hB.out rfl
      go_roundw
      case rel => exact ⟨k + 1, by omega, by go_num, by go_num, Lib.hid (by simpa using HC.1), Lib.hid (by simpa using HC.2.1), Lib.hid (by simpa using HC.2.2), Lib.hid (fun x hx => (heap_setCell_other _ _ _ _ hx).trans (hF.out x hx))⟩
      case measure => simp [intOf]; omega
    · obtain rfl : k = n := by omega
      go_wp2
      go_ret
      exact ⟨rfl, hA.out, hB.out.1, hB.out.2, hF.out⟩
end Go.Proofs.YtbiknpfcemfoeaaDoor
