/- Lists of permits that a law writes over (markPermitS), and looks at again (heldPermitS). Condition: the numbers are small. -/
import Derived.Test.YtjhaonfdapldcaaDoorPm
namespace Go.Proofs.YtjhaonfdapldcaaDoor
open Go Go.RowKit Ieee
set_option linter.unusedSimpArgs false
set_option linter.unusedVariables false
def mkP (k : Nat) : P3 := (IntKind.i8.wrap k, IntKind.i8.wrap (k + 1), IntKind.i16.wrap (k + 1 + 1))
theorem heap_setCellsP {b k : Nat} (vs : List Value) (h : k ≠ b) : ∀ {o : Nat} {W : World}, (W.setCells b o vs).heap[k]? = W.heap[k]? := by
  induction vs with
  | nil => intro o W; rfl
  | cons v r ih => intro o W; rw [World.setCells, ih]; exact heap_setCell_other _ _ _ _ h
theorem mkp_set (wr : World) (b o : Nat) (e : P3) : (((wr.setCell ⟨b, o, none⟩ (.int .i8 e.1)).setCell ⟨b, o + 1, none⟩ (.int .i8 e.2.1)).setCell ⟨b, o + 2, none⟩ (.int .i16 e.2.2)) = wr.setCells b o (p3 e) := rfl
/-- One round: one well more is written over. -/
theorem markedP {w wr V : World} {b o n k k0 : Nat} (hlt : k < n) (hT : wr.there b o (n * 3)) (hA : ∀ j, j < k → wr.rangeAt b (o + j * 3) (p3 (mkP (k0 + 3 * j)))) (hB : Below b w wr ∧ wr.heap.size = w.heap.size)
    (hF : ∀ x, x ≠ b → wr.heap[x]? = w.heap[x]?) (hv : V = wr.setCells b (o + k * 3) (p3 (mkP (k0 + 3 * k)))) :
    V.there b o (n * 3) ∧ (∀ j, j < k + 1 → V.rangeAt b (o + j * 3) (p3 (mkP (k0 + 3 * j)))) ∧ (Below b w V ∧ V.heap.size = w.heap.size) ∧ ∀ x, x ≠ b → V.heap[x]? = w.heap[x]? := by
  subst hv
  have ht : wr.there b (o + k * 3) 3 := fun j hj => by
    have := hT (k * 3 + j) (by omega)
    rwa [← Nat.add_assoc] at this
  refine ⟨World.there_setCells hT _ _ _, fun j hj => ?_, ⟨below_setCells _ (Nat.le_refl _) _ _ _ hB.1, (size_setCellsW _ _ _ _).trans hB.2⟩, fun x hx => (heap_setCellsP _ hx).trans (hF x hx)⟩
  by_cases hjk : j = k
  · subst hjk
    exact World.rangeAt_setCells_same _ _ _ _ ht
  · exact World.rangeAt_setCells_apart (hA j (by omega)) _ _ _ (.inr (.inl (by rw [p3_len]; omega)))
end Go.Proofs.YtjhaonfdapldcaaDoor
