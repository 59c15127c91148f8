/- What several texts share: worlds from which only answers have been drawn, boxes, loads of many cells. No condition. -/
import Derived.Test.YtcfkkceidlpdkaaDoorGrd
import Derived.Lib.Hide
import Derived.BigQuiet
import Derived.Deep.QuietTactic
import Derived.Deep.RegionHeld3
namespace Go.Proofs.YtcfkkceidlpdkaaDoor
open Go.RowKit
set_option linter.unusedSimpArgs false

theorem ret_bool {a b : Bool} (h : a = b) : Ending.returned (.bool a) = .returned (.bool b) := by rw [h]

/-- A world from which only answers have been drawn. -/
def Quiet (w w' : World) : Prop := ∃ n, w' = w.drewN n
theorem Quiet.refl (w : World) : Quiet w w := ⟨0, rfl⟩
theorem Quiet.drewN {w w1 : World} (h : Quiet w w1) (n : Nat) : Quiet w (w1.drewN n) := by
  obtain ⟨m, rfl⟩ := h
  exact ⟨m + n, World.drewN_drewN _ _ _⟩
theorem Quiet.trans {a b c : World} (h : Quiet a b) (k : Quiet b c) : Quiet a c := by
  obtain ⟨m, rfl⟩ := k
  exact h.drewN m
theorem Quiet.cell {w w1 : World} (h : Quiet w w1) (x : Addr) : w1.cell? x = w.cell? x := by
  obtain ⟨m, rfl⟩ := h
  rfl
theorem Quiet.size {w w1 : World} (h : Quiet w w1) : w1.heap.size = w.heap.size := by
  obtain ⟨m, rfl⟩ := h
  rfl
theorem Quiet.below {w w1 : World} (h : Quiet w w1) (n : Nat) : Below n w w1 := by
  obtain ⟨m, rfl⟩ := h
  exact ⟨rfl, rfl, rfl, Nat.le_refl _, fun _ _ => rfl⟩
theorem Quiet.grd {w w1 : World} (h : Quiet w w1) {b o : Nat} {G : Gd} (g : GrdAt w b o G) : GrdAt w1 b o G := g.below (h.below (b + 1)) (by omega)
theorem Quiet.range {w w1 : World} (h : Quiet w w1) {b o : Nat} {cs : List Value} (g : w.rangeAt b o cs) : w1.rangeAt b o cs := fun j v hv => (h.cell _).trans (g j v hv)

/-- A value, boxed. -/
theorem one_box (A : Array Value) (t : TypeId) (w : World) : ∃ W, w.alloc (.cells A t) = W ∧ W.heap.size = w.heap.size + 1 ∧ W.rangeAt w.heap.size 0 A.toList ∧ Below w.heap.size w W :=
  ⟨_, rfl, by simp, rangeAt_row (heap_alloc_last w (.cells A t)), (Below.refl _ _).alloc (Nat.le_refl _) _⟩
/-- Two values, boxed one behind the other. -/
theorem two_boxes (A B : Array Value) (t u : TypeId) (w : World) : ∃ W, (w.alloc (.cells A t)).alloc (.cells B u) = W ∧ W.heap.size = w.heap.size + 1 + 1 ∧ W.rangeAt w.heap.size 0 A.toList ∧ W.rangeAt (w.heap.size + 1) 0 B.toList ∧ Below w.heap.size w W := by
  have hz : (w.alloc (.cells A t)).heap.size = w.heap.size + 1 := by simp
  refine ⟨_, rfl, by simp, ?_, ?_, ((Below.refl _ _).alloc (Nat.le_refl _) _).alloc (by omega) _⟩
  · exact World.rangeAt_alloc (rangeAt_row (heap_alloc_last w (.cells A t))) _
  · have := rangeAt_row (heap_alloc_last (w.alloc (.cells A t)) (.cells B u))
    rwa [hz] at this

theorem below_step {n : Nat} {w W V : World} (h : Below n w W) (hb : Below W.heap.size W V) (hn : n ≤ W.heap.size) : Below n w V := h.trans (hb.mono hn)
theorem keepB {n : Nat} {W w1 w2 : World} (hb : Below w1.heap.size w1 w2) (h : Below n W w1) (hn : n ≤ W.heap.size) : Below n W w2 :=
  h.trans (hb.mono (Nat.le_trans hn h.size))
/-- What lies in a block that has not turned lies there. -/
theorem range_kept {n b o : Nat} {W : World} {cs : List Value} (hc : W.rangeAt b o cs) (hb : b < n) : ∀ w', Below n W w' → w'.rangeAt b o cs :=
  fun _ h j v hv => (h.cell (p := ⟨b, o + j, none⟩) hb).trans (hc j v hv)

/-- A LOAD OF MANY CELLS THAT IS WANTED, IN A WALK (guarded or not). -/
theorem wpList_load_g {P : Program} {ops : Array Oper} {rest : List Oper} {op : Oper} {a : Act} {w : World} {Q : Exit → Act → World → Prop} (hw : Region.wanted op (yielded ops a.tmps) = true) (ty : TypeId) (x : Operand) (ho : op.op = .load ty x)
    (b o : Nat) (hx : a.eval x = .pointer (some ⟨b, o, none⟩)) (cs : List Value) (d : TypeDesc) (hc : w.rangeAt b o cs)
    (hu : P.underlying ty = some d) (hd : d.isRow = true) (hi : (P.info? ty).map (·.size) = some cs.length)
    (h : wpList P ops Q rest (a.put op.dst (.agg cs.toArray)) w) : wpList P ops Q (op :: rest) a w :=
  wpList_step fun _ hK => by rw [if_pos hw]; exact wp_load_mid ty x ho b o hx cs d hc hu hd hi (hK _ _ h)

theorem Grd_fld {w : World} {b o : Nat} {f : Nat → Nat} (h : w.rangeAt b o (Fld f).toList) (k : Nat) (hk : k < 64) : w.cell? ⟨b, o + k, none⟩ = some (.float .f32 (f k)) := h k _ (by simpa using Fld_at f k hk)
end Go.Proofs.YtcfkkceidlpdkaaDoor
