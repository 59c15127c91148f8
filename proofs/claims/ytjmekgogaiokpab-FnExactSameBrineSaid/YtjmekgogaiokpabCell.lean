/- The laws' comparison of fields and grounds says yes of what is the same. No condition. · What the laws over grounds share. No condition. · What the laws over grounds share: conversions under a guard, fields that are stored. No condition. · CellAt, BesideCell, CellsOf: the model's and the program's. Condition (the program's): the table of math/bits is laid. · WithHead, WithGain, WithConduct: the model's and the program's. Condition (the program's): the table of math/bits is laid. · CellsOf, WithFixed: the model's and the program's. Condition (the program's): the table of math/bits is laid. · Neighbours: the model's l01Beside, the program's beside; BesideCell. Condition (the program's): the table of math/bits is laid. · The program's cellSide.of and beside. No condition. -/
import Derived.Test.YtjmekgogaiokpabBase
import Derived.Test.YtjmekgogaiokpabChk
import Derived.Laws.EntriesVeiled
namespace Go.Proofs.Ytjmekgogaiokpab

section
open Go.RowKit
set_option linter.unusedSimpArgs false

/-- Two fields are boxed. -/
theorem fbox2 (f g : Nat → Nat) (t u : TypeId) (w : World) : ∃ W, (w.alloc (.cells (Fld f) t)).alloc (.cells (Fld g) u) = W ∧ W.heap.size = w.heap.size + 1 + 1 ∧ W.rangeAt w.heap.size 0 (Fld f).toList ∧ W.rangeAt (w.heap.size + 1) 0 (Fld g).toList ∧ Below w.heap.size w W := two_boxes (Fld f) (Fld g) t u w

/-- The code after a load of a field. -/
theorem eqField_keep {n : Nat} {W V : World} {b o : Nat} {f : Nat → Nat} (h : W.rangeAt b o (Fld f).toList) (hB : Below n W V) (hb : b < n) : V.rangeAt b o (Fld f).toList := range_kept h hb V hB

end

section
open Go.RowKit
set_option maxRecDepth 100000

/-- A ground that has been stored in a block that has just been made. -/
theorem stored_box (A : Gd) (t : TypeId) (w : World) : ∃ U, (w.alloc (.cells (Grd zG) t)).setCells w.heap.size 0 (Grd A).toList = U ∧ U.heap.size = w.heap.size + 1 ∧ GBox U w.heap.size A ∧ Below w.heap.size w U := by
  obtain ⟨W, h, hs, g, hB⟩ := gbox1 zG t w
  rw [h]
  exact ⟨_, rfl, by rw [size_setCells, hs], g.store, below_setCells _ (Nat.le_refl _) _ _ _ hB⟩
theorem new_there (t : TypeId) (w : World) : (w.alloc (.cells (Grd zG) t)).there w.heap.size 0 195 := there_row (heap_alloc_last w _) (Grd_size zG)
end

section
open Go.RowKit
set_option maxRecDepth 100000

theorem zeroField : (Try.prog.info? 31).map (fun i => (i.zero, i.size)) = some (some (.agg (Fld zf)), 64) := by kernel_rfl
/-- A field that has been stored in a block that has just been made. -/
theorem stored_fld (f : Nat → Nat) (t : TypeId) (w : World) : ∃ U, (w.alloc (.cells (Fld zf) t)).setCells w.heap.size 0 (Fld f).toList = U ∧ U.heap.size = w.heap.size + 1 ∧ U.rangeAt w.heap.size 0 (Fld f).toList ∧ Below w.heap.size w U :=
  ⟨_, rfl, by rw [size_setCells]; simp, World.rangeAt_setCells_same _ _ _ _ (by rw [show (Fld f).toList.length = 64 from Fld_length f]; exact there_row (heap_alloc_last w _) (Fld_size zf)), below_setCells _ (Nat.le_refl _) _ _ _ ((Below.refl _ _).alloc (Nat.le_refl _) _)⟩
theorem new_thereF (t : TypeId) (w : World) : (w.alloc (.cells (Fld zf) t)).there w.heap.size 0 64 := there_row (heap_alloc_last w _) (Fld_size zf)
end

section
open Go.RowKit
set_option linter.unusedSimpArgs false

/-- Two numbers, as a result. -/
def II (a b : Int) : Value := .tuple #[.int .i64 a, .int .i64 b]
theorem ret_II {a b c d : Int} (h1 : a = c) (h2 : b = d) : Ending.returned (.tuple #[.int .i64 a, .int .i64 b]) = .returned (II c d) := by rw [h1, h2]; rfl

def cellAtN (G : Gd) (x y : Int) : Int × Int := if validB G = true then (if holdB G x y = true then (x + 8 * y, 0) else (0, 2)) else (0, 1)
end

section
open Go.RowKit
attribute [local go_sem] run_store_float
set_option linter.unusedSimpArgs false

/-- The code, and the ground, of a change at a cell that leads to H. -/
def withN (G H : Gd) (c : Int) : Int := if askedN G c = 0 then madeN H else askedN G c
def withG (G H : Gd) (c : Int) : Gd := if askedN G c = 0 then madeG H else zG

theorem asked_in {G : Gd} {c : Int} (h : askedN G c = 0) : ∃ k : Nat, c = k ∧ k < 64 ∧ validB G = true ∧ isB G k = true := by
  unfold askedN at h
  split at h
  · rename_i hv
    split at h
    · rename_i hi
      obtain ⟨k, h1, h2, h3⟩ := inB_cast hi
      exact ⟨k, h1, h2, hv, h3⟩
    · cases h
  · cases h
theorem upd_has {f : Nat → Nat} {k b : Nat} (hf : ∀ i, i < 64 → FloatKind.f32.has (f i)) (hb : FloatKind.f32.has b) : ∀ i, i < 64 → FloatKind.f32.has (upd f k b i) := fun i hi => by
  unfold upd
  split
  · exact hb
  · exact hf i hi

theorem ok_h {G : Gd} {k b : Nat} (hG : GdOk G) (_hb : FloatKind.f32.has b) : GdOk { G with h := upd G.h k b } := ⟨hG.wide, hG.high, hG.x, hG.c, hG.g, fun _ _ => trivial⟩

theorem ok_g {G : Gd} {k b : Nat} (hG : GdOk G) (hb : FloatKind.f32.has b) : GdOk { G with g := upd G.g k b } := ⟨hG.wide, hG.high, hG.x, hG.c, upd_has hG.g hb, hG.h⟩

theorem ok_c {G : Gd} {k b : Nat} (hG : GdOk G) (hb : FloatKind.f32.has b) : GdOk { G with c := upd G.c k b } := ⟨hG.wide, hG.high, hG.x, upd_has hG.c hb, hG.g, hG.h⟩

end

section
open Go.RowKit
set_option linter.unusedSimpArgs false

/-- Bits and a number, as a result. -/
def UI (a b : Int) : Value := .tuple #[.int .u64 a, .int .i64 b]
theorem ret_UI {a b c d : Int} (h1 : a = c) (h2 : b = d) : Ending.returned (.tuple #[.int .u64 a, .int .i64 b]) = .returned (UI c d) := by rw [h1, h2]; rfl

def cellsOfN (G : Gd) : Int × Int := if validB G = true then ((cellsN G : Int), 0) else (0, 1)

end

section
open Go.RowKit
set_option linter.unusedSimpArgs false

/-- The place on a side of a cell's. -/
def nx (k : Nat) (s : Int) : Int := ((k % 8 : Nat) : Int) + (if s = 1 then 1 else if s = 3 then -1 else 0)
def ny (k : Nat) (s : Int) : Int := ((k / 8 : Nat) : Int) + (if s = 0 then -1 else if s = 2 then 1 else 0)
/-- There is a neighbour; its number. -/
def nbB (G : Gd) (k : Nat) (s : Int) : Bool := holdB G (nx k s) (ny k s)
def nb (k : Nat) (s : Int) : Int := nx k s + 8 * ny k s

theorem side_cases {s : Int} (h : sideB s = true) : s = 0 ∨ s = 1 ∨ s = 2 ∨ s = 3 := by
  simp only [sideB, Bool.and_eq_true, decide_eq_true_eq] at h
  omega

/-- What l01Beside says. -/
def besideN (G : Gd) (k : Nat) (s : Int) : Int := if nbB G k s = true then nb k s else -1

def besideCellN (G : Gd) (c s : Int) : Int × Int := if sidedN G c s = 0 then (if nbB G c.toNat s = true then (nb c.toNat s, 0) else (0, 6)) else (0, sidedN G c s)
theorem sided_in {G : Gd} {c s : Int} (h : sidedN G c s = 0) : ∃ k : Nat, c = k ∧ k < 64 ∧ validB G = true ∧ isB G k = true ∧ sideB s = true := by
  unfold sidedN at h
  split at h
  · rename_i ha
    split at h
    · rename_i hs
      obtain ⟨k, h1, h2, h3, h4⟩ := asked_in ha
      exact ⟨k, h1, h2, h3, h4, hs⟩
    · cases h
  · rename_i ha
    exact absurd h ha
theorem nb_range {G : Gd} {k : Nat} {s : Int} (hv : validB G = true) (h : nbB G k s = true) : 0 ≤ nb k s ∧ nb k s ≤ 63 ∧ 0 ≤ nx k s ∧ nx k s ≤ 7 ∧ 0 ≤ ny k s ∧ ny k s ≤ 7 := by
  obtain ⟨v1, v2, v3, v4⟩ := valid_ext hv
  simp only [nbB, holdB, Bool.and_eq_true, decide_eq_true_eq] at h
  obtain ⟨h1, h2, h3, h4⟩ := h
  unfold nb
  omega

end

section
open Go.RowKit
set_option linter.unusedSimpArgs false

/-- Three blocks, one behind the other. -/
theorem three_boxes (A B C : Array Value) (t u v : TypeId) (w : World) : ∃ W, ((w.alloc (.cells A t)).alloc (.cells B u)).alloc (.cells C v) = W ∧ W.heap.size = w.heap.size + 1 + 1 + 1 ∧ W.rangeAt w.heap.size 0 A.toList ∧ W.rangeAt (w.heap.size + 1) 0 B.toList ∧ W.there (w.heap.size + 1) 0 B.size ∧ W.rangeAt (w.heap.size + 1 + 1) 0 C.toList ∧ Below w.heap.size w W := by
  obtain ⟨W1, h1⟩ : ∃ W1, w.alloc (.cells A t) = W1 := ⟨_, rfl⟩
  obtain ⟨W2, h2⟩ : ∃ W2, W1.alloc (.cells B u) = W2 := ⟨_, rfl⟩
  have z1 : W1.heap.size = w.heap.size + 1 := by rw [← h1]; simp
  have z2 : W2.heap.size = w.heap.size + 1 + 1 := by rw [← h2]; simp [z1]
  have b1 : Below w.heap.size w W1 := by rw [← h1]; exact (Below.refl _ _).alloc (Nat.le_refl _) _
  have b2 : Below W1.heap.size W1 W2 := by rw [← h2]; exact (Below.refl _ _).alloc (Nat.le_refl _) _
  have b3 : Below W2.heap.size W2 (W2.alloc (.cells C v)) := (Below.refl _ _).alloc (Nat.le_refl _) _
  have r1 : W1.rangeAt w.heap.size 0 A.toList := by rw [← h1]; exact rangeAt_row (heap_alloc_last w _)
  have r2 : W2.rangeAt (w.heap.size + 1) 0 B.toList := by rw [← h2, ← z1]; exact rangeAt_row (heap_alloc_last W1 _)
  have t2 : W2.there (w.heap.size + 1) 0 B.size := by rw [← h2, ← z1]; exact there_row (heap_alloc_last W1 _) rfl
  have r3 : (W2.alloc (.cells C v)).rangeAt (w.heap.size + 1 + 1) 0 C.toList := by rw [← z2]; exact rangeAt_row (heap_alloc_last W2 _)
  rw [h1, h2]
  refine ⟨_, rfl, by simp [z2], range_kept (n := W2.heap.size) (range_kept (n := W1.heap.size) r1 (by omega) _ b2) (by omega) _ b3, range_kept (n := W2.heap.size) r2 (by omega) _ b3, there_below t2 b3 (by omega), r3, (b1.trans (b2.mono (by omega))).trans (b3.mono (by omega))⟩

/-- A place, boxed. -/
theorem plc_box (x y : Int) (t : TypeId) (w : World) : ∃ W, w.alloc (.cells #[Value.int .i64 x, .int .i64 y] t) = W ∧ W.heap.size = w.heap.size + 1 ∧ W.cell? ⟨w.heap.size, 0, none⟩ = some (.int .i64 x) ∧ W.cell? ⟨w.heap.size, 1, none⟩ = some (.int .i64 y) ∧ Below w.heap.size w W :=
  ⟨_, rfl, by simp, cell_of_row _ _ 0 _ _ _ (heap_alloc_last w _), cell_of_row _ _ 1 _ _ _ (heap_alloc_last w _), (Below.refl _ _).alloc (Nat.le_refl _) _⟩

/-- A number and a bool, as a result. -/
def IB (a : Int) (b : Bool) : Value := .tuple #[Value.int .i64 a, .bool b]

end
end Go.Proofs.Ytjmekgogaiokpab
