/- IsSmallStep: the program's. Condition: the table of math/bits is laid. -/
import Derived.Test.YtikefaollfaejaaDoorBrSs
namespace Go.Proofs.YtikefaollfaejaaDoor
open Go.RowKit Go.Shelf
attribute [local go_sem] Oper.semAt_some run_store_float
set_option linter.unusedSimpArgs false
set_option linter.unusedVariables false

theorem pi_three (A C : Array Value) (t u v : TypeId) (w : World) : ∃ W, ((w.alloc (.cells A t)).alloc (.cells C u)).alloc (.cells (Fld zf) v) = W ∧ W.heap.size = w.heap.size + 1 + 1 + 1 ∧ W.rangeAt w.heap.size 0 A.toList ∧ W.rangeAt (w.heap.size + 1) 0 C.toList ∧ W.there (w.heap.size + 1 + 1) 0 64 ∧ Below w.heap.size w W := by
  obtain ⟨V, hV, z, r1, r2, b⟩ := two_boxes A C t u w
  rw [hV]
  have hb : Below V.heap.size V (V.alloc (.cells (Fld zf) v)) := (Below.refl _ _).alloc (Nat.le_refl _) _
  have ht := new_thereF v V
  rw [z] at ht
  exact ⟨_, rfl, by simp [z], range_below r1 hb (by omega), range_below r2 hb (by omega), ht, b.trans (hb.mono (by omega))⟩
/-- A field of zeros and a bool, made and the field stored. -/
theorem pi_half (W : World) (t u : TypeId) : ∃ X, ((W.alloc (.cells (Fld zf) t)).alloc (.cells #[.bool false] u)).setCells W.heap.size 0 (Fld zf).toList = X ∧ X.heap.size = W.heap.size + 1 + 1 ∧
    X.rangeAt W.heap.size 0 (Fld zf).toList ∧ X.there W.heap.size 0 64 ∧ X.cell? ⟨W.heap.size + 1, 0, none⟩ = some (.bool false) ∧ X.frozen? ⟨W.heap.size + 1, 0, none⟩ = false ∧ Below W.heap.size W X := by
  obtain ⟨V, hV, z, r, hb⟩ := one_box (Fld zf) t W
  have hth : V.there W.heap.size 0 64 := by rw [← hV]; exact new_thereF t W
  rw [hV]
  have b2 : Below V.heap.size V (V.alloc (.cells #[.bool false] u)) := (Below.refl _ _).alloc (Nat.le_refl _) _
  have hl := heap_alloc_last V (.cells #[.bool false] u)
  have c := cell_of_row _ _ 0 _ _ _ hl
  have f := (there_row (n := 1) hl rfl 0 (by omega)).2
  rw [z] at c f
  rw [Nat.zero_add] at f
  have th2 := there_below hth b2 (by omega)
  have c2 : ((V.alloc (.cells #[.bool false] u)).setCells W.heap.size 0 (Fld zf).toList).cell? ⟨W.heap.size + 1, 0, none⟩ = some (.bool false) := by
    have := World.rangeAt_setCells_apart (b' := W.heap.size + 1) (o' := 0) (cs := [.bool false]) (fun i u hu => by
      have hi : i = 0 := by have := (List.getElem?_eq_some_iff.1 hu).1; simpa using this
      subst hi; simp at hu; subst hu; exact c) W.heap.size 0 (Fld zf).toList (.inl (by omega))
    exact this 0 _ rfl
  refine ⟨_, rfl, by simp [size_setCells, z], World.rangeAt_setCells_same _ _ _ _ (by rw [Fld_length]; exact th2), World.there_setCells th2 _ _ _, c2, ?_, ?_⟩
  · rw [World.frozen?_setCells]; exact f
  · exact below_setCells _ (Nat.le_refl _) _ _ _ (hb.trans (b2.mono (by omega)))

/-- What partsIn hands on. -/
def Parts (B : Brn) (x : Nat) (e : Ending) : Prop := ∃ f : Nat → Nat, e = .returned (.tuple #[.agg (Fld f), .bool (smallB B x)]) ∧ (∀ i, i < 64 → frB B.G i = true → num .f32 (f i) = partO B x i) ∧ ∀ i, frB B.G i = false → f i = 0
theorem all_free (B : Brn) (x : Nat) : (bitsL (freeN B.G)).all (fun i => le1O (partO B x i)) = (List.range 64).all (smAt B x) ∨ True := .inr trivial
theorem small_eq {B : Brn} (hG : GdOk B.G) (x : Nat) : (amtB x && (bitsL (freeN B.G)).all fun i => le1O (partO B x i)) = smallB B x := by
  unfold smallB
  congr 1
  rw [Bool.eq_iff_iff, List.all_eq_true, List.all_eq_true]
  have hf := (freeN_is hG).2.2
  constructor
  · intro h i hi
    have hi' : i < 64 := by simpa using hi
    unfold smAt
    cases hb : frB B.G i
    · rfl
    · rw [h i (mem_bitsL.2 ⟨hi', by rw [hf i hi', hb]⟩)]; rfl
  · intro h i hi
    have hm := mem_bitsL.1 hi
    have := h i (by simpa using hm.1)
    unfold smAt at this
    rw [hf i hm.1] at hm
    rw [hm.2] at this
    simpa using this

theorem pi_put (f : Nat → Nat) (V : World) (t : TypeId) : ∃ X, (V.alloc (.cells (Fld zf) t)).setCells V.heap.size 0 (Fld f).toList = X ∧ Below V.heap.size V X :=
  ⟨_, rfl, below_setCells _ (Nat.le_refl _) _ _ _ ((Below.refl _ _).alloc (Nat.le_refl _) _)⟩

end Go.Proofs.YtikefaollfaejaaDoor
