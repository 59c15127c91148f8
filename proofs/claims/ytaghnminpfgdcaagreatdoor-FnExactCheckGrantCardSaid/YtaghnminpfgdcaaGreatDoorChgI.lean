/- ChangesBetween: the program's. Condition: the table of math/bits is laid. -/
import Derived.Test.YtaghnminpfgdcaaGreatDoorChgS
namespace Go.Proofs.YtaghnminpfgdcaaGreatDoor
open Go.RowKit Go.Shelf
attribute [local go_sem] Oper.semAt_some run_store_float
set_option linter.unusedSimpArgs false
set_option linter.unusedVariables false

/-- Two grounds, a field and a number are boxed. -/
theorem ggri_box (G H : Gd) (f : Nat → Nat) (n : Int) (t u v y : TypeId) (w : World) : ∃ W, (((w.alloc (.cells (Grd G) t)).alloc (.cells (Grd H) u)).alloc (.cells (Fld f) v)).alloc (.cells #[.int .i64 n] y) = W ∧ W.heap.size = w.heap.size + 1 + 1 + 1 + 1 ∧ GBox W w.heap.size G ∧ GBox W (w.heap.size + 1) H ∧ RowAt W (w.heap.size + 1 + 1) f ∧ W.cell? ⟨w.heap.size + 1 + 1 + 1, 0, none⟩ = some (.int .i64 n) ∧ W.frozen? ⟨w.heap.size + 1 + 1 + 1, 0, none⟩ = false ∧ Below w.heap.size w W := by
  obtain ⟨W1, h1, z1, g1, g2, q1, b1⟩ := ggr_box G H f t u v w
  have b2 : Below W1.heap.size W1 (W1.alloc (.cells #[.int .i64 n] y)) := (Below.refl _ _).alloc (Nat.le_refl _) _
  rw [h1]
  refine ⟨_, rfl, by simp [z1], g1.below b2 (by omega), g2.below b2 (by omega), q1.below b2 (by omega), ?_, ?_, b1.trans (b2.mono (by omega))⟩
  · rw [← z1]; exact cell_of_row _ _ 0 _ _ _ (heap_alloc_last W1 _)
  · rw [← z1]; have := (there_row (n := 1) (heap_alloc_last W1 (.cells #[.int .i64 n] y)) rfl 0 (by omega)).2; rwa [Nat.zero_add] at this

end Go.Proofs.YtaghnminpfgdcaaGreatDoor
