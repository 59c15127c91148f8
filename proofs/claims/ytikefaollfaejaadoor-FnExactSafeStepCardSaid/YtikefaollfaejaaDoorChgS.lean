/- ChangesBetween: the model's. No condition. -/
import Derived.Test.YtikefaollfaejaaDoorPlain
namespace Go.Proofs.YtikefaollfaejaaDoor
open Go.RowKit Go.Shelf
attribute [local go_sem] Oper.semAt_some run_store_float
set_option linter.unusedSimpArgs false
set_option linter.unusedVariables false

/-- The changes, as a field. -/
def chF (G H : Gd) (i : Nat) : Nat := if isB G i = true then (fop .f32 .sub (num .f32 (H.h i)) (num .f32 (G.h i))).getD 0 else 0
def sameE (G H : Gd) : Bool := (G.wide == H.wide) && (G.high == H.high)
def chB (G H : Gd) : Value := if sameE G H = true then FB (chF G H) true else FB zf false
theorem valid_heads {G : Gd} (hv : validB G = true) {i : Nat} (hi : i < 64) (hb : isB G i = true) : plainB (G.h i) = true := by
  unfold validB at hv
  simp only [Bool.and_eq_true] at hv
  have h := hv.2.2.2.1
  unfold fieldB at h
  have := List.all_eq_true.1 h i (by simpa using hi)
  simpa [okAt, hb] using this
theorem isB_ext {G H : Gd} (h : sameE G H = true) (i : Nat) : isB H i = isB G i := by
  unfold sameE at h
  simp only [Bool.and_eq_true, beq_iff_eq] at h
  unfold isB
  rw [h.1, h.2]
theorem chF_is {G H : Gd} (hG : validB G = true) (hH : validB H = true) (he : sameE G H = true) {i : Nat} (hi : i < 64) (hb : isB G i = true) {r : Nat} (hr : num .f32 r = fop .f32 .sub (num .f32 (H.h i)) (num .f32 (G.h i))) : r = chF G H i ∧ finB r = true := by
  obtain ⟨s, h1, h2, _⟩ := plain_sub (valid_heads hH hi (by rw [isB_ext he]; exact hb)) (valid_heads hG hi hb)
  rw [h1] at hr
  obtain ⟨rfl, _⟩ := num_eq_some hr
  exact ⟨by simp [chF, hb, h1], h2⟩

/-- What ChangesBetween says. -/
def chV (G H : Gd) : Value := if (validB G && validB H) = true then (if sameE G H = true then FN (chF G H) 0 else FN zf 4) else FN zf 1
theorem chV_is (G H : Gd) : ∃ (f : Nat → Nat) (n : Int), chV G H = .tuple #[.agg (Fld f), .int .i64 n] := by
  unfold chV
  split
  · split <;> exact ⟨_, _, rfl⟩
  · exact ⟨_, _, rfl⟩
/-- Two grounds and a field are boxed. -/
theorem ggr_box (G H : Gd) (f : Nat → Nat) (t u v : TypeId) (w : World) : ∃ W, ((w.alloc (.cells (Grd G) t)).alloc (.cells (Grd H) u)).alloc (.cells (Fld f) v) = W ∧ W.heap.size = w.heap.size + 1 + 1 + 1 ∧ GBox W w.heap.size G ∧ GBox W (w.heap.size + 1) H ∧ RowAt W (w.heap.size + 1 + 1) f ∧ Below w.heap.size w W := by
  obtain ⟨W1, h1, z1, g1, g2, b1⟩ := gbox2 G H t u w
  have b2 : Below W1.heap.size W1 (W1.alloc (.cells (Fld f) v)) := (Below.refl _ _).alloc (Nat.le_refl _) _
  rw [h1]
  exact ⟨_, rfl, by simp [z1], g1.below b2 (by omega), g2.below b2 (by omega), by rw [← z1]; exact RowAt.new _ _ _, b1.trans (b2.mono (by omega))⟩

end Go.Proofs.YtikefaollfaejaaDoor
