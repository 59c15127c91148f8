/- The program's ValidGround: it returns whether the ground is valid. Condition: the table of math/bits is laid. -/
import Derived.Test.YtcfkkceidlpdkaaDoorOutside
import Derived.Test.YtcfkkceidlpdkaaDoorArrEq
import Derived.Test.YtcfkkceidlpdkaaDoorImplOk
import Derived.Test.YtcfkkceidlpdkaaDoorPlan
namespace Go.Proofs.YtcfkkceidlpdkaaDoor
open Go.RowKit Go.Shelf
attribute [local go_sem] Oper.semAt_some run_store_float
set_option linter.unusedSimpArgs false

def extN (n : Int) : Bool := decide (2 ≤ n) && decide (n ≤ 8)
theorem isExtent_is (n : Int) (r : Bool) (h : extN n = r) (w : World) : Calls Tryd.prog 90 #[.int .i64 n] w fun e w' => e = .returned (.bool r) ∧ w = w' := by
  subst h
  go_enter Tryd.func90, Tryd.ntmps90
  go_wp2
  all_goals (go_ret; refine ⟨ret_bool ?_, rfl⟩)
  all_goals (rename_i h; simp [extN, h])
  all_goals omega

theorem isPlain_is (b : Nat) (r : Bool) (h : plainB b = r) (w : World) : Calls Tryd.prog 70 #[.float .f32 b] w fun e w' => e = .returned (.bool r) ∧ w = w' := by
  subst h
  go_enter Tryd.func70, Tryd.ntmps70
  go_wp2
  all_goals (go_ret; refine ⟨ret_bool ?_, rfl⟩)
  all_goals (rename_i h; simp [plainB, h])

/-- A ground's box and a bool behind it. -/
theorem vg_two (G : Gd) (t u : TypeId) (w : World) : ∃ W, (w.alloc (.cells (Grd G) t)).alloc (.cells #[.bool false] u) = W ∧ W.heap.size = w.heap.size + 1 + 1 ∧ GrdAt W w.heap.size 0 G ∧
    W.cell? ⟨w.heap.size + 1, 0, none⟩ = some (.bool false) ∧ W.frozen? ⟨w.heap.size + 1, 0, none⟩ = false ∧ Below w.heap.size w W := by
  obtain ⟨W, hW, hz, h1, h2, hb⟩ := two_boxes (Grd G) #[.bool false] t u w
  have hl := heap_alloc_last (w.alloc (.cells (Grd G) t)) (.cells #[.bool false] u)
  rw [hW, show (w.alloc (.cells (Grd G) t)).heap.size = w.heap.size + 1 by simp] at hl
  exact ⟨W, hW, hz, grdAt h1, h2 0 _ rfl, (there_row (n := 1) hl rfl 0 (by omega)).2, hb⟩

theorem results_cell_bool {P : Program} {fn : Func} {p : Tmp} {ty : TypeId} (h : fn.results = #[.cell p ty]) (hu : P.underlying ty = some .bool) (tmps : Array Value) (w : World) (b o : Nat) (x : Bool)
    (hp : tmps.getD p undef = .pointer (some ⟨b, o, none⟩)) (hc : w.cell? ⟨b, o, none⟩ = some (.bool x)) : (results fn tmps).run P w = .ok (.bool x) w := by
  have hp' : tmps[p]?.getD undef = .pointer (some ⟨b, o, none⟩) := by simpa using hp
  simp [results, h, hp', asAddr, isAgg, run_underlying hu, go_sem, hc]

set_option maxRecDepth 100000 in
set_option maxHeartbeats 1000000 in
theorem vg_w (G : Gd) (w : World) (hG : GdOk G) (e : extN G.wide = false) :
    Calls Tryd.prog 57 #[.agg (Grd G)] w fun e w' => e = .returned (.bool false) ∧ Below w.heap.size w w' := by
  obtain ⟨k0, k0'⟩ := hG.wide'
  go_enter Tryd.func57, Tryd.ntmps57
  go_upto_region 1 with (fail)
  obtain ⟨W, hW, hz, hg, hc, hf, hB⟩ := vg_two G 32 4 w
  rw [hW]
  clear hW
  have a0 := hg.wide
  have E := Lib.hid e
  clear e hG hg
  go_wp2_with (go_at_call 90; refine (isExtent_is _ false E.out _).mono ?_; rintro e w' ⟨rfl, rfl⟩)
  refine bodyPost_ret (results_cell_bool rfl Tryd.underlying4 _ _ _ 0 false rfl ?_) rfl ⟨rfl, ?_⟩
  · exact World.cell?_setCell_same' _ _ _ (by rw [hc]; rfl)
  · exact hB.setCell (p := ⟨w.heap.size + 1, 0, none⟩) (by simp) _

set_option maxRecDepth 100000 in
set_option maxHeartbeats 1000000 in
theorem vg_h (G : Gd) (w : World) (hG : GdOk G) (e0 : extN G.wide = true) (e : extN G.high = false) :
    Calls Tryd.prog 57 #[.agg (Grd G)] w fun e w' => e = .returned (.bool false) ∧ Below w.heap.size w w' := by
  obtain ⟨k0, k0'⟩ := hG.wide'
  obtain ⟨k1, k1'⟩ := hG.high'
  go_enter Tryd.func57, Tryd.ntmps57
  go_upto_region 1 with (fail)
  obtain ⟨W, hW, hz, hg, hc, hf, hB⟩ := vg_two G 32 4 w
  rw [hW]
  clear hW
  have a0 := hg.wide; have a1 := hg.high
  rw [Nat.zero_add] at a1
  have E := Lib.hid e
  have E0 := Lib.hid e0
  have tk0 : True := trivial
  clear e e0 hG hg
  go_wp2_with (first | (have _t := tk0; go_at_call 90; refine (isExtent_is _ true E0.out _).mono ?_; rintro e w' ⟨rfl, rfl⟩; clear tk0) | (go_at_call 90; refine (isExtent_is _ false E.out _).mono ?_; rintro e w' ⟨rfl, rfl⟩))
  refine bodyPost_ret (results_cell_bool rfl Tryd.underlying4 _ _ _ 0 false rfl ?_) rfl ⟨rfl, ?_⟩
  · exact World.cell?_setCell_same' _ _ _ (by rw [hc]; rfl)
  · exact hB.setCell (p := ⟨w.heap.size + 1, 0, none⟩) (by simp) _

set_option maxRecDepth 100000 in
set_option maxHeartbeats 1000000 in
theorem vg_x (G : Gd) (Wn Hn : Nat) (hWn : G.wide = Wn) (hHn : G.high = Hn) (w8 : Wn ≤ 8) (h8 : Hn ≤ 8) (w : World) (hG : GdOk G) (e0 : extN G.wide = true) (e : extN G.high = true) (ex : ((G.x != 0) && fixB G) = false) :
    Calls Tryd.prog 57 #[.agg (Grd G)] w fun e w' => e = .returned (.bool false) ∧ Below w.heap.size w w' := by
  obtain ⟨k0, k0'⟩ := hG.wide'
  obtain ⟨k1, k1'⟩ := hG.high'
  have x' := hG.x'
  go_enter Tryd.func57, Tryd.ntmps57
  go_upto_region 1 with (fail)
  obtain ⟨W, hW, hz, hg, hc, hf, hB⟩ := vg_two G 32 4 w
  rw [hW]
  clear hW
  have a0 := hg.wide; have a1 := hg.high; have a2 := hg.x
  rw [Nat.zero_add] at a1 a2
  have E := Lib.hid e
  have E0 := Lib.hid e0
  have tk0 : True := trivial
  have Hg := Lib.hid hg
  have HW := Lib.hid hWn
  have HH := Lib.hid hHn
  clear e e0 hG hg hWn hHn
  cases hx : (G.x != 0)
  · have ex : (G.x == 0) = true := by simpa [bne] using hx
    clear hx
    go_wp2_with (first | (have _t := tk0; go_at_call 90; refine (isExtent_is _ true E0.out _).mono ?_; rintro e w' ⟨rfl, rfl⟩; clear tk0) | (go_at_call 90; refine (isExtent_is _ true E.out _).mono ?_; rintro e w' ⟨rfl, rfl⟩) | (go_at_call 59; refine (cells_any G Wn Hn HW.out HH.out w8 h8 _ _ Hg.out).mono ?_; rintro e w' ⟨rfl, rfl⟩))
    refine bodyPost_ret (results_cell_bool rfl Tryd.underlying4 _ _ _ 0 false rfl ?_) rfl ⟨rfl, ?_⟩
    · exact World.cell?_setCell_same' _ _ _ (by rw [hc]; rfl)
    · exact hB.setCell (p := ⟨w.heap.size + 1, 0, none⟩) (by simp) _
  · have e1 : (G.x == 0) = false := by simpa [bne] using hx
    have e2 : (bits .andNot .u64 G.x (cellsN G) == 0) = false := by simpa [hx, fixB] using ex
    clear hx ex
    have e3 : (bits .andNot .u64 G.x (cellsN G) != 0) = true := by simp only [bne, e2]; rfl
    go_wp2_with (first | (have _t := tk0; go_at_call 90; refine (isExtent_is _ true E0.out _).mono ?_; rintro e w' ⟨rfl, rfl⟩; clear tk0) | (go_at_call 90; refine (isExtent_is _ true E.out _).mono ?_; rintro e w' ⟨rfl, rfl⟩) | (go_at_call 59; refine (cells_any G Wn Hn HW.out HH.out w8 h8 _ _ Hg.out).mono ?_; rintro e w' ⟨rfl, rfl⟩))
    refine bodyPost_ret (results_cell_bool rfl Tryd.underlying4 _ _ _ 0 false rfl ?_) rfl ⟨rfl, ?_⟩
    · exact World.cell?_setCell_same' _ _ _ (by rw [hc]; rfl)
    · exact hB.setCell (p := ⟨w.heap.size + 1, 0, none⟩) (by simp) _

/-- A cell's numbers are as they must be. -/
def cellOk (G : Gd) (i : Nat) : Bool := plainB (G.c i) && (!negB (G.c i) && (plainB (G.g i) && plainB (G.h i)))

/-- A ground's box, a bool and a mask. -/
theorem vg_three (w : World) (G : Gd) (m : Nat) (v : TypeId) (n : Nat) {W : World} (hz : W.heap.size = n + 1 + 1) (hg : GrdAt W n 0 G) (hc : W.cell? ⟨n + 1, 0, none⟩ = some (.bool false)) (hf : W.frozen? ⟨n + 1, 0, none⟩ = false) (hB : Below n w W) : ∃ V, W.alloc (.cells #[.int .u64 m] v) = V ∧ V.heap.size = n + 1 + 1 + 1 ∧ GrdAt V n 0 G ∧
    V.cell? ⟨n + 1, 0, none⟩ = some (.bool false) ∧ V.frozen? ⟨n + 1, 0, none⟩ = false ∧ V.cell? ⟨n + 1 + 1, 0, none⟩ = some (.int .u64 m) ∧ Below n w V := by
  have b : Below W.heap.size W (W.alloc (.cells #[.int .u64 m] v)) := (Below.refl _ _).alloc (Nat.le_refl _) _
  have hl := cell_of_row (W.alloc (.cells #[.int .u64 m] v)) W.heap.size 0 _ _ _ (heap_alloc_last W _)
  rw [hz] at hl
  exact ⟨_, rfl, by simp [hz], hg.below b (by omega), (b.cell (p := ⟨n + 1, 0, none⟩) (by simp; omega)).trans hc, (b.frozen (p := ⟨n + 1, 0, none⟩) (by simp; omega)).trans hf, hl, hB.alloc (by omega) _⟩

theorem grd_own {W W' : World} {row : Option Nat} {b o : Nat} {G : Gd} (h : GrdAt W b o G) (hg : W.grownBy W' row) (hr : ∀ r, row = some r → ∃ o : Obj, W.heap[r]? = some o ∧ o.isCells = false) : GrdAt W' b o G :=
  ⟨cell_kept h.wide hg hr, cell_kept h.high hg hr, fun j v hv => cell_kept (h.c j v hv) hg hr, fun j v hv => cell_kept (h.g j v hv) hg hr, fun j v hv => cell_kept (h.h j v hv) hg hr, cell_kept h.x hg hr⟩

theorem isPlain_any (b : Nat) (w : World) : Calls Tryd.prog 70 #[.float .f32 b] w fun e w' => e = .returned (.bool (plainB b)) ∧ w = w' := isPlain_is b _ rfl w

/-- A store of a bool where a cell is there. -/
theorem run_store_there {P : Program} {w : World} {b o : Nat} (h : w.there b o 1) (x : Bool) (m : Mode) : (store ⟨b, o, none⟩ (.bool x) m).run P w = .ok () (w.setCell ⟨b, o, none⟩ (.bool x)) := by
  obtain ⟨h1, h2⟩ := h 0 (by omega)
  rw [Nat.add_zero] at h1 h2
  obtain ⟨u, hu⟩ := Option.isSome_iff_exists.1 h1
  rw [run_store_bool, stored, hu, h2]
  rfl

/-- What is known of the world besides the fields, while the last statement of ValidGround is carried out. -/
structure VgR (w : World) (n N D : Nat) (w' : World) : Prop where
  below : Below n w w'
  dl : w'.heap[D]? = some (.deferred (some []))
  n1 : n + 1 < w'.heap.size
  nN : N < w'.heap.size
theorem range_below {n b o : Nat} {W V : World} {cs : List Value} (hc : W.rangeAt b o cs) (h : Below n W V) (hb : b < n) : V.rangeAt b o cs := range_kept hc hb V h
theorem vg_step {w : World} {G : Gd} {n N D : Nat} {a b : World} (h : a.rangeAt n 2 (Fld G.c).toList ∧ a.rangeAt n 66 (Fld G.g).toList ∧ a.rangeAt n 130 (Fld G.h).toList ∧ a.rangeAt N 0 (Fld zf).toList ∧ a.there (n + 1) 0 1 ∧ Hid (VgR w n N D a)) (k : Below a.heap.size a b) :
    b.rangeAt n 2 (Fld G.c).toList ∧ b.rangeAt n 66 (Fld G.g).toList ∧ b.rangeAt n 130 (Fld G.h).toList ∧ b.rangeAt N 0 (Fld zf).toList ∧ b.there (n + 1) 0 1 ∧ Hid (VgR w n N D b) := by
  obtain ⟨h1, h2, h3, h4, h5, h6⟩ := h
  have h6 := h6.out
  have q1 := h6.n1
  have hD : D < a.heap.size := by have := (Array.getElem?_eq_some_iff.1 h6.dl).1; exact this
  exact ⟨range_below h1 k (by omega), range_below h2 k (by omega), range_below h3 k (by omega), range_below h4 k h6.nN, there_below h5 k h6.n1,
    ⟨h6.below.trans (k.mono (by omega)), (k.block D hD).trans h6.dl, by have := k.size; omega, by have := k.size; have := h6.nN; omega⟩⟩
theorem vg_put {w : World} {G : Gd} {n N D : Nat} {a : World} (v : Value) (hN : N ≠ n + 1) (hn : n ≤ n + 1) (hDn : D ≠ n + 1) (h : a.rangeAt n 2 (Fld G.c).toList ∧ a.rangeAt n 66 (Fld G.g).toList ∧ a.rangeAt n 130 (Fld G.h).toList ∧ a.rangeAt N 0 (Fld zf).toList ∧ a.there (n + 1) 0 1 ∧ Hid (VgR w n N D a)) :
    (a.setCell ⟨n + 1, 0, none⟩ v).rangeAt n 2 (Fld G.c).toList ∧ (a.setCell ⟨n + 1, 0, none⟩ v).rangeAt n 66 (Fld G.g).toList ∧ (a.setCell ⟨n + 1, 0, none⟩ v).rangeAt n 130 (Fld G.h).toList ∧ (a.setCell ⟨n + 1, 0, none⟩ v).rangeAt N 0 (Fld zf).toList ∧ (a.setCell ⟨n + 1, 0, none⟩ v).there (n + 1) 0 1 ∧ Hid (VgR w n N D (a.setCell ⟨n + 1, 0, none⟩ v)) := by
  obtain ⟨h1, h2, h3, h4, h5, h6⟩ := h
  have h6 := h6.out
  have far : ∀ {b o : Nat} {cs : List Value}, b ≠ n + 1 → a.rangeAt b o cs → (a.setCell ⟨n + 1, 0, none⟩ v).rangeAt b o cs := fun hb hr j x hx => by
    rw [World.cell?_setCell_other _ _ _ _ (fun e => hb (by injection e with e; exact e.symm))]
    exact hr j x hx
  refine ⟨far (by omega) h1, far (by omega) h2, far (by omega) h3, far hN h4, fun j hj => ?_, ⟨h6.below.setCell (p := ⟨n + 1, 0, none⟩) hn _, ?_, by rw [World.size_setCell]; exact h6.n1, by rw [World.size_setCell]; exact h6.nN⟩⟩
  · have : j = 0 := by omega
    subst this
    refine ⟨?_, by rw [World.frozen?_setCell]; exact (h5 0 hj).2⟩
    rw [Nat.zero_add, World.cell?_setCell_same' _ _ _ (by have := (h5 0 hj).1; rwa [Nat.zero_add] at this)]
    rfl
  · rw [heap_setCell_other _ _ _ _ hDn]; exact h6.dl
theorem size_setCells (b : Nat) : ∀ (vs : List Value) (o : Nat) (w : World), (w.setCells b o vs).heap.size = w.heap.size
  | [], _, _ => rfl
  | v :: r, o, w => by rw [World.setCells, size_setCells b r, World.size_setCell]
theorem vg_nil {w : World} {G : Gd} {n D : Nat} {W : World} (t : TypeId) (hD : W.heap[D]? = some (.deferred (some []))) (hn : n + 1 < W.heap.size) (hg : GrdAt W n 0 G) (hc : W.cell? ⟨n + 1, 0, none⟩ = some (.bool false)) (hf : W.frozen? ⟨n + 1, 0, none⟩ = false) (hB : Below n w W) :
    ∃ U, (W.alloc (.cells (Fld zf) t)).setCells W.heap.size 0 (Fld zf).toList = U ∧
      (U.rangeAt n 2 (Fld G.c).toList ∧ U.rangeAt n 66 (Fld G.g).toList ∧ U.rangeAt n 130 (Fld G.h).toList ∧ U.rangeAt W.heap.size 0 (Fld zf).toList ∧ U.there (n + 1) 0 1 ∧ Hid (VgR w n W.heap.size D U)) := by
  have b1 : Below W.heap.size W ((W.alloc (.cells (Fld zf) t)).setCells W.heap.size 0 (Fld zf).toList) := below_setCells _ (Nat.le_refl _) _ _ _ ((Below.refl _ _).alloc (Nat.le_refl _) _)
  have hDl : D < W.heap.size := (Array.getElem?_eq_some_iff.1 hD).1
  have hz : ((W.alloc (.cells (Fld zf) t)).setCells W.heap.size 0 (Fld zf).toList).heap.size = W.heap.size + 1 := by rw [size_setCells]; simp
  have g2 := hg.below b1 (by omega)
  have tt : W.there (n + 1) 0 1 := fun j hj => by
    have : j = 0 := by omega
    subst this
    exact ⟨by rw [Nat.zero_add, hc]; rfl, hf⟩
  refine ⟨_, rfl, by have := g2.c; rwa [Nat.zero_add] at this, by have := g2.g; rwa [Nat.zero_add] at this, by have := g2.h; rwa [Nat.zero_add] at this, World.rangeAt_setCells_same _ _ _ _ ?_, there_below tt b1 hn, ⟨hB.trans (b1.mono (by omega)), (b1.block D hDl).trans hD, by omega, by omega⟩⟩
  exact there_row (heap_alloc_last W _) (by rw [Fld_length]; rfl)

theorem vg_tab {w : World} {G : Gd} {n N D : Nat} {a : World} (hgl : 0 < n) (hw : TabAt w) (h : a.rangeAt n 2 (Fld G.c).toList ∧ a.rangeAt n 66 (Fld G.g).toList ∧ a.rangeAt n 130 (Fld G.h).toList ∧ a.rangeAt N 0 (Fld zf).toList ∧ a.there (n + 1) 0 1 ∧ Hid (VgR w n N D a)) : TabAt a := hw.below h.2.2.2.2.2.out.below hgl
theorem vg_gl {w : World} {G : Gd} {n N D : Nat} {a : World} (hgl : 0 < n) (h : a.rangeAt n 2 (Fld G.c).toList ∧ a.rangeAt n 66 (Fld G.g).toList ∧ a.rangeAt n 130 (Fld G.h).toList ∧ a.rangeAt N 0 (Fld zf).toList ∧ a.there (n + 1) 0 1 ∧ Hid (VgR w n N D a)) : 0 < a.heap.size := Nat.lt_trans hgl (by have := h.2.2.2.2.2.out.n1; omega)
theorem vg_drew {w : World} {G : Gd} {n N D : Nat} {a : World} (h : a.rangeAt n 2 (Fld G.c).toList ∧ a.rangeAt n 66 (Fld G.g).toList ∧ a.rangeAt n 130 (Fld G.h).toList ∧ a.rangeAt N 0 (Fld zf).toList ∧ a.there (n + 1) 0 1 ∧ Hid (VgR w n N D a)) :
    a.drew.rangeAt n 2 (Fld G.c).toList ∧ a.drew.rangeAt n 66 (Fld G.g).toList ∧ a.drew.rangeAt n 130 (Fld G.h).toList ∧ a.drew.rangeAt N 0 (Fld zf).toList ∧ a.drew.there (n + 1) 0 1 ∧ Hid (VgR w n N D a.drew) :=
  ⟨h.1, h.2.1, h.2.2.1, h.2.2.2.1, h.2.2.2.2.1, ⟨h.2.2.2.2.2.out.below.drew, h.2.2.2.2.2.out.dl, h.2.2.2.2.2.out.n1, h.2.2.2.2.2.out.nN⟩⟩
attribute [local go_sem] eqlFld guard_fld
attribute [local go_sem high] run_store_there

/-- The comparison of two fields, as an operation. -/
theorem run_eql_fld {op : Oper} {a : Act} {x y : Operand} {f g : Nat → Nat} {t : TypeId} (ho : op.op = .binOp .eql 30 x y t) (hx : a.eval x = .agg (Fld f)) (hy : a.eval y = .agg (Fld g)) (w : World) : (execOp a.eval op).run Tryd.prog w = .ok (.value (.bool (eqF f g))) w := by
  unfold execOp
  simp only [ho, hx, hy]
  go_simp

/-- A bool is stored. -/
theorem run_store_op {op : Oper} {a : Act} {x y : Operand} {w : World} {b o : Nat} {v : Bool} (ho : op.op = .store 4 x y) (hx : a.eval x = .pointer (some ⟨b, o, none⟩)) (hy : a.eval y = .bool v) (h : w.there b o 1) :
    (execOp a.eval op).run Tryd.prog w = .ok .skip (w.setCell ⟨b, o, none⟩ (.bool v)) := by
  obtain ⟨h1, h2⟩ := h 0 (by omega)
  rw [Nat.add_zero] at h1 h2
  obtain ⟨u, hu⟩ := Option.isSome_iff_exists.1 h1
  clear h h1
  unfold execOp
  simp only [ho, hx, hy]
  go_simp

set_option maxRecDepth 100000 in
set_option maxHeartbeats 4000000 in
/-- The last statement of ValidGround. -/
theorem vg_region (G : Gd) (w : World) (N D : Nat) (r : Bool) (hR : (eqF (outF G.c (cellsN G)) zf && (eqF (outF G.g (cellsN G)) zf && eqF (outF G.h (cellsN G)) zf)) = r) (m64 : cellsN G < 18446744073709551616)
    (hgl : 0 < w.heap.size) (HT : Hid (TabAt w)) (hDn : D ≠ w.heap.size + 1) (hNn : N ≠ w.heap.size + 1) (hnn : w.heap.size ≤ w.heap.size + 1) (U : World)
    (SU : U.rangeAt w.heap.size 2 (Fld G.c).toList ∧ U.rangeAt w.heap.size 66 (Fld G.g).toList ∧ U.rangeAt w.heap.size 130 (Fld G.h).toList ∧ U.rangeAt N 0 (Fld zf).toList ∧ U.there (w.heap.size + 1) 0 1 ∧ Hid (VgR w w.heap.size N D U)) (Q : Exit → Act → World → Prop) (df : List Deferred)
    (HQ : ∀ a' V, a'.defers = df → a'.tmps.getD 2 undef = .pointer (some ⟨w.heap.size + 1, 0, none⟩) → (V.rangeAt w.heap.size 2 (Fld G.c).toList ∧ V.rangeAt w.heap.size 66 (Fld G.g).toList ∧ V.rangeAt w.heap.size 130 (Fld G.h).toList ∧ V.rangeAt N 0 (Fld zf).toList ∧ V.there (w.heap.size + 1) 0 1 ∧ Hid (VgR w w.heap.size N D V)) → Q .normal a' (V.setCell ⟨w.heap.size + 1, 0, none⟩ (.bool r)))
    (x0 x4 x5 x7 x8 x9 x10 x11 x12 x13 x14 x15 x16 x17 x18 x19 x20 x21 x22 x23 x24 x25 x26 x27 x28 x29 x30 x31 x32 x33 x34 x35 x36 x37 x38 x39 x40 x41 x42 x43 x44 x45 x46 x47 x48 x49 x50 x51 x52 x53 x54 x55 x56 x57 x58 x59 x60 x61 x62 x63 x64 x65 x66 x67 x68 x69 x70 x71 x72 x73 x74 x75 x76 x77 x78 x79 x80 x81 x82 : Value) :
    (Code.region 12 (regOf Tryd.f57 12) true).wp Tryd.prog Q { tmps := #[x0, .pointer (some ⟨w.heap.size, 0, none⟩), .pointer (some ⟨w.heap.size + 1, 0, none⟩), .int .u64 (cellsN G), x4, x5, .pointer (some ⟨N, 0, none⟩), x7, x8, x9, x10, x11, x12, x13, x14, x15, x16, x17, x18, x19, x20, x21, x22, x23, x24, x25, x26, x27, x28, x29, x30, x31, x32, x33, x34, x35, x36, x37, x38, x39, x40, x41, x42, x43, x44, x45, x46, x47, x48, x49, x50, x51, x52, x53, x54, x55, x56, x57, x58, x59, x60, x61, x62, x63, x64, x65, x66, x67, x68, x69, x70, x71, x72, x73, x74, x75, x76, x77, x78, x79, x80, x81, x82], defers := df } U := by
  cases c1 : eqF (outF G.c (cellsN G)) zf
  · have R : false = r := by rw [← hR, c1]; rfl
    refine wp_region_plan (ops' := regOf Tryd.f57 12) (.take 0 (.take 1 (.take 2 (.take 4 (.run 3 (.take 5 (.take 6 (.take 7 (.take 8 (.take 9 (.take 10 (.take 11 (.take 12 (.take 13 (.take 14 (.take 15 (.take 16 (.take 17 (.take 18 (.take 19 (.take 20 (.take 21 (.run 22 .fin))))))))))))))))))))))) (fun w' => w'.rangeAt w.heap.size 2 (Fld G.c).toList ∧ w'.rangeAt w.heap.size 66 (Fld G.g).toList ∧ w'.rangeAt w.heap.size 130 (Fld G.h).toList ∧ w'.rangeAt N 0 (Fld zf).toList ∧ w'.there (w.heap.size + 1) 0 1 ∧ Hid (VgR w w.heap.size N D w')) (by kernel_rfl) (by kernel_rfl) (by kernel_rfl) (by kernel_rfl) (by kernel_rfl) (vg_drew SU) ?_
    have HS := vg_drew SU
    refine plan_pure (some 61) (Value.pointer (some ⟨w.heap.size, 2, none⟩)) (by kernel_rfl) (by kernel_rfl) (by kernel_rfl) (fun _ => by kernel_rfl) ?_
    refine plan_load (some 62) 30 (.tmp 61) (w.heap.size) 2 ((Fld G.c).toList) _ (by kernel_rfl) (by kernel_rfl) (by kernel_rfl) (by kernel_rfl) (by kernel_rfl) (fun _ h => h.1) Tryd.underlying30 rfl (by rw [Fld_length]; exact infoField) ?_
    refine plan_pure (some 63) (Value.int IntKind.u64 (cellsN G)) (by kernel_rfl) (by kernel_rfl) (by kernel_rfl) (fun _ => by kernel_rfl) ?_
    refine plan_load (some 65) 30 (.tmp 6) (N) 0 ((Fld zf).toList) _ (by kernel_rfl) (by kernel_rfl) (by kernel_rfl) (by kernel_rfl) (by kernel_rfl) (fun _ h => h.2.2.2.1) Tryd.underlying30 rfl (by rw [Fld_length]; exact infoField) ?_
    refine plan_call (some 64) 91 #[.agg (Fld G.c), .int .u64 (cellsN G)] (by kernel_rfl) (by kernel_rfl) (by kernel_rfl) (by kernel_rfl) (Calls.mono (outside_any G.c (cellsN G) m64 _ (vg_tab hgl HT.out HS) (vg_gl hgl HS)) ?_)
    rintro e w' ⟨rfl, hb⟩
    refine ⟨_, rfl, vg_step HS hb, ?_⟩
    replace HS := vg_step HS hb
    clear hb
    refine plan_pure (some 66) (Value.bool (eqF (outF G.c (cellsN G)) zf)) (by kernel_rfl) (by kernel_rfl) (by kernel_rfl) (run_eql_fld (x := .tmp 64) (y := .tmp 65) (t := 30) (by kernel_rfl) (by kernel_rfl) (by kernel_rfl)) ?_
    rw [c1]
    refine plan_pure (some 67) (Value.bool false) (by kernel_rfl) (by kernel_rfl) (by kernel_rfl) (fun _ => by kernel_rfl) ?_
    refine plan_skip (some 68) (by kernel_rfl) (by kernel_rfl) (by kernel_rfl) ?_
    refine plan_skip (some 69) (by kernel_rfl) (by kernel_rfl) (by kernel_rfl) ?_
    refine plan_skip (some 70) (by kernel_rfl) (by kernel_rfl) (by kernel_rfl) ?_
    refine plan_skip (some 71) (by kernel_rfl) (by kernel_rfl) (by kernel_rfl) ?_
    refine plan_skip (some 72) (by kernel_rfl) (by kernel_rfl) (by kernel_rfl) ?_
    refine plan_skip (some 73) (by kernel_rfl) (by kernel_rfl) (by kernel_rfl) ?_
    refine plan_pure (some 74) (Value.bool false) (by kernel_rfl) (by kernel_rfl) (by kernel_rfl) (fun _ => by kernel_rfl) ?_
    refine plan_pure (some 75) (Value.bool false) (by kernel_rfl) (by kernel_rfl) (by kernel_rfl) (fun _ => by kernel_rfl) ?_
    refine plan_skip (some 76) (by kernel_rfl) (by kernel_rfl) (by kernel_rfl) ?_
    refine plan_skip (some 77) (by kernel_rfl) (by kernel_rfl) (by kernel_rfl) ?_
    refine plan_skip (some 78) (by kernel_rfl) (by kernel_rfl) (by kernel_rfl) ?_
    refine plan_skip (some 79) (by kernel_rfl) (by kernel_rfl) (by kernel_rfl) ?_
    refine plan_skip (some 80) (by kernel_rfl) (by kernel_rfl) (by kernel_rfl) ?_
    refine plan_skip (some 81) (by kernel_rfl) (by kernel_rfl) (by kernel_rfl) ?_
    refine plan_pure (some 82) (Value.bool false) (by kernel_rfl) (by kernel_rfl) (by kernel_rfl) (fun _ => by kernel_rfl) ?_
    refine plan_do none undef _ (by kernel_rfl) (by kernel_rfl) (by kernel_rfl) (.inr ⟨run_store_op (x := .tmp 2) (y := .tmp 82) (b := w.heap.size + 1) (o := 0) (v := false) (by kernel_rfl) (by kernel_rfl) (by kernel_rfl) HS.2.2.2.2.1, rfl⟩) (vg_put _ hNn hnn hDn HS) ?_
    exact plan_end (NoPanic.normal (R ▸ HQ _ _ (by kernel_rfl) (by kernel_rfl) HS))
  cases c2 : eqF (outF G.g (cellsN G)) zf
  · have R : false = r := by rw [← hR, c1, c2]; rfl
    refine wp_region_plan (ops' := regOf Tryd.f57 12) (.take 0 (.take 1 (.take 2 (.take 4 (.run 3 (.take 5 (.take 6 (.take 7 (.take 8 (.take 9 (.take 11 (.run 10 (.take 12 (.take 13 (.take 14 (.take 15 (.take 16 (.take 17 (.take 18 (.take 19 (.take 20 (.take 21 (.run 22 .fin))))))))))))))))))))))) (fun w' => w'.rangeAt w.heap.size 2 (Fld G.c).toList ∧ w'.rangeAt w.heap.size 66 (Fld G.g).toList ∧ w'.rangeAt w.heap.size 130 (Fld G.h).toList ∧ w'.rangeAt N 0 (Fld zf).toList ∧ w'.there (w.heap.size + 1) 0 1 ∧ Hid (VgR w w.heap.size N D w')) (by kernel_rfl) (by kernel_rfl) (by kernel_rfl) (by kernel_rfl) (by kernel_rfl) (vg_drew SU) ?_
    have HS := vg_drew SU
    refine plan_pure (some 61) (Value.pointer (some ⟨w.heap.size, 2, none⟩)) (by kernel_rfl) (by kernel_rfl) (by kernel_rfl) (fun _ => by kernel_rfl) ?_
    refine plan_load (some 62) 30 (.tmp 61) (w.heap.size) 2 ((Fld G.c).toList) _ (by kernel_rfl) (by kernel_rfl) (by kernel_rfl) (by kernel_rfl) (by kernel_rfl) (fun _ h => h.1) Tryd.underlying30 rfl (by rw [Fld_length]; exact infoField) ?_
    refine plan_pure (some 63) (Value.int IntKind.u64 (cellsN G)) (by kernel_rfl) (by kernel_rfl) (by kernel_rfl) (fun _ => by kernel_rfl) ?_
    refine plan_load (some 65) 30 (.tmp 6) (N) 0 ((Fld zf).toList) _ (by kernel_rfl) (by kernel_rfl) (by kernel_rfl) (by kernel_rfl) (by kernel_rfl) (fun _ h => h.2.2.2.1) Tryd.underlying30 rfl (by rw [Fld_length]; exact infoField) ?_
    refine plan_call (some 64) 91 #[.agg (Fld G.c), .int .u64 (cellsN G)] (by kernel_rfl) (by kernel_rfl) (by kernel_rfl) (by kernel_rfl) (Calls.mono (outside_any G.c (cellsN G) m64 _ (vg_tab hgl HT.out HS) (vg_gl hgl HS)) ?_)
    rintro e w' ⟨rfl, hb⟩
    refine ⟨_, rfl, vg_step HS hb, ?_⟩
    replace HS := vg_step HS hb
    clear hb
    refine plan_pure (some 66) (Value.bool (eqF (outF G.c (cellsN G)) zf)) (by kernel_rfl) (by kernel_rfl) (by kernel_rfl) (run_eql_fld (x := .tmp 64) (y := .tmp 65) (t := 30) (by kernel_rfl) (by kernel_rfl) (by kernel_rfl)) ?_
    rw [c1]
    refine plan_pure (some 67) (Value.bool true) (by kernel_rfl) (by kernel_rfl) (by kernel_rfl) (fun _ => by kernel_rfl) ?_
    refine plan_pure (some 68) (Value.pointer (some ⟨w.heap.size, 66, none⟩)) (by kernel_rfl) (by kernel_rfl) (by kernel_rfl) (fun _ => by kernel_rfl) ?_
    refine plan_load (some 69) 30 (.tmp 68) (w.heap.size) 66 ((Fld G.g).toList) _ (by kernel_rfl) (by kernel_rfl) (by kernel_rfl) (by kernel_rfl) (by kernel_rfl) (fun _ h => h.2.1) Tryd.underlying30 rfl (by rw [Fld_length]; exact infoField) ?_
    refine plan_pure (some 70) (Value.int IntKind.u64 (cellsN G)) (by kernel_rfl) (by kernel_rfl) (by kernel_rfl) (fun _ => by kernel_rfl) ?_
    refine plan_load (some 72) 30 (.tmp 6) (N) 0 ((Fld zf).toList) _ (by kernel_rfl) (by kernel_rfl) (by kernel_rfl) (by kernel_rfl) (by kernel_rfl) (fun _ h => h.2.2.2.1) Tryd.underlying30 rfl (by rw [Fld_length]; exact infoField) ?_
    refine plan_call (some 71) 91 #[.agg (Fld G.g), .int .u64 (cellsN G)] (by kernel_rfl) (by kernel_rfl) (by kernel_rfl) (by kernel_rfl) (Calls.mono (outside_any G.g (cellsN G) m64 _ (vg_tab hgl HT.out HS) (vg_gl hgl HS)) ?_)
    rintro e w' ⟨rfl, hb⟩
    refine ⟨_, rfl, vg_step HS hb, ?_⟩
    replace HS := vg_step HS hb
    clear hb
    refine plan_pure (some 73) (Value.bool (eqF (outF G.g (cellsN G)) zf)) (by kernel_rfl) (by kernel_rfl) (by kernel_rfl) (run_eql_fld (x := .tmp 71) (y := .tmp 72) (t := 30) (by kernel_rfl) (by kernel_rfl) (by kernel_rfl)) ?_
    rw [c2]
    refine plan_pure (some 74) (Value.bool false) (by kernel_rfl) (by kernel_rfl) (by kernel_rfl) (fun _ => by kernel_rfl) ?_
    refine plan_pure (some 75) (Value.bool false) (by kernel_rfl) (by kernel_rfl) (by kernel_rfl) (fun _ => by kernel_rfl) ?_
    refine plan_skip (some 76) (by kernel_rfl) (by kernel_rfl) (by kernel_rfl) ?_
    refine plan_skip (some 77) (by kernel_rfl) (by kernel_rfl) (by kernel_rfl) ?_
    refine plan_skip (some 78) (by kernel_rfl) (by kernel_rfl) (by kernel_rfl) ?_
    refine plan_skip (some 79) (by kernel_rfl) (by kernel_rfl) (by kernel_rfl) ?_
    refine plan_skip (some 80) (by kernel_rfl) (by kernel_rfl) (by kernel_rfl) ?_
    refine plan_skip (some 81) (by kernel_rfl) (by kernel_rfl) (by kernel_rfl) ?_
    refine plan_pure (some 82) (Value.bool false) (by kernel_rfl) (by kernel_rfl) (by kernel_rfl) (fun _ => by kernel_rfl) ?_
    refine plan_do none undef _ (by kernel_rfl) (by kernel_rfl) (by kernel_rfl) (.inr ⟨run_store_op (x := .tmp 2) (y := .tmp 82) (b := w.heap.size + 1) (o := 0) (v := false) (by kernel_rfl) (by kernel_rfl) (by kernel_rfl) HS.2.2.2.2.1, rfl⟩) (vg_put _ hNn hnn hDn HS) ?_
    exact plan_end (NoPanic.normal (R ▸ HQ _ _ (by kernel_rfl) (by kernel_rfl) HS))
  cases c3 : eqF (outF G.h (cellsN G)) zf
  · have R : false = r := by rw [← hR, c1, c2, c3]; rfl
    refine wp_region_plan (ops' := regOf Tryd.f57 12) (.take 0 (.take 1 (.take 2 (.take 4 (.run 3 (.take 5 (.take 6 (.take 7 (.take 8 (.take 9 (.take 11 (.run 10 (.take 12 (.take 13 (.take 14 (.take 15 (.take 16 (.take 17 (.take 19 (.run 18 (.take 20 (.take 21 (.run 22 .fin))))))))))))))))))))))) (fun w' => w'.rangeAt w.heap.size 2 (Fld G.c).toList ∧ w'.rangeAt w.heap.size 66 (Fld G.g).toList ∧ w'.rangeAt w.heap.size 130 (Fld G.h).toList ∧ w'.rangeAt N 0 (Fld zf).toList ∧ w'.there (w.heap.size + 1) 0 1 ∧ Hid (VgR w w.heap.size N D w')) (by kernel_rfl) (by kernel_rfl) (by kernel_rfl) (by kernel_rfl) (by kernel_rfl) (vg_drew SU) ?_
    have HS := vg_drew SU
    refine plan_pure (some 61) (Value.pointer (some ⟨w.heap.size, 2, none⟩)) (by kernel_rfl) (by kernel_rfl) (by kernel_rfl) (fun _ => by kernel_rfl) ?_
    refine plan_load (some 62) 30 (.tmp 61) (w.heap.size) 2 ((Fld G.c).toList) _ (by kernel_rfl) (by kernel_rfl) (by kernel_rfl) (by kernel_rfl) (by kernel_rfl) (fun _ h => h.1) Tryd.underlying30 rfl (by rw [Fld_length]; exact infoField) ?_
    refine plan_pure (some 63) (Value.int IntKind.u64 (cellsN G)) (by kernel_rfl) (by kernel_rfl) (by kernel_rfl) (fun _ => by kernel_rfl) ?_
    refine plan_load (some 65) 30 (.tmp 6) (N) 0 ((Fld zf).toList) _ (by kernel_rfl) (by kernel_rfl) (by kernel_rfl) (by kernel_rfl) (by kernel_rfl) (fun _ h => h.2.2.2.1) Tryd.underlying30 rfl (by rw [Fld_length]; exact infoField) ?_
    refine plan_call (some 64) 91 #[.agg (Fld G.c), .int .u64 (cellsN G)] (by kernel_rfl) (by kernel_rfl) (by kernel_rfl) (by kernel_rfl) (Calls.mono (outside_any G.c (cellsN G) m64 _ (vg_tab hgl HT.out HS) (vg_gl hgl HS)) ?_)
    rintro e w' ⟨rfl, hb⟩
    refine ⟨_, rfl, vg_step HS hb, ?_⟩
    replace HS := vg_step HS hb
    clear hb
    refine plan_pure (some 66) (Value.bool (eqF (outF G.c (cellsN G)) zf)) (by kernel_rfl) (by kernel_rfl) (by kernel_rfl) (run_eql_fld (x := .tmp 64) (y := .tmp 65) (t := 30) (by kernel_rfl) (by kernel_rfl) (by kernel_rfl)) ?_
    rw [c1]
    refine plan_pure (some 67) (Value.bool true) (by kernel_rfl) (by kernel_rfl) (by kernel_rfl) (fun _ => by kernel_rfl) ?_
    refine plan_pure (some 68) (Value.pointer (some ⟨w.heap.size, 66, none⟩)) (by kernel_rfl) (by kernel_rfl) (by kernel_rfl) (fun _ => by kernel_rfl) ?_
    refine plan_load (some 69) 30 (.tmp 68) (w.heap.size) 66 ((Fld G.g).toList) _ (by kernel_rfl) (by kernel_rfl) (by kernel_rfl) (by kernel_rfl) (by kernel_rfl) (fun _ h => h.2.1) Tryd.underlying30 rfl (by rw [Fld_length]; exact infoField) ?_
    refine plan_pure (some 70) (Value.int IntKind.u64 (cellsN G)) (by kernel_rfl) (by kernel_rfl) (by kernel_rfl) (fun _ => by kernel_rfl) ?_
    refine plan_load (some 72) 30 (.tmp 6) (N) 0 ((Fld zf).toList) _ (by kernel_rfl) (by kernel_rfl) (by kernel_rfl) (by kernel_rfl) (by kernel_rfl) (fun _ h => h.2.2.2.1) Tryd.underlying30 rfl (by rw [Fld_length]; exact infoField) ?_
    refine plan_call (some 71) 91 #[.agg (Fld G.g), .int .u64 (cellsN G)] (by kernel_rfl) (by kernel_rfl) (by kernel_rfl) (by kernel_rfl) (Calls.mono (outside_any G.g (cellsN G) m64 _ (vg_tab hgl HT.out HS) (vg_gl hgl HS)) ?_)
    rintro e w' ⟨rfl, hb⟩
    refine ⟨_, rfl, vg_step HS hb, ?_⟩
    replace HS := vg_step HS hb
    clear hb
    refine plan_pure (some 73) (Value.bool (eqF (outF G.g (cellsN G)) zf)) (by kernel_rfl) (by kernel_rfl) (by kernel_rfl) (run_eql_fld (x := .tmp 71) (y := .tmp 72) (t := 30) (by kernel_rfl) (by kernel_rfl) (by kernel_rfl)) ?_
    rw [c2]
    refine plan_pure (some 74) (Value.bool true) (by kernel_rfl) (by kernel_rfl) (by kernel_rfl) (fun _ => by kernel_rfl) ?_
    refine plan_pure (some 75) (Value.bool true) (by kernel_rfl) (by kernel_rfl) (by kernel_rfl) (fun _ => by kernel_rfl) ?_
    refine plan_pure (some 76) (Value.pointer (some ⟨w.heap.size, 130, none⟩)) (by kernel_rfl) (by kernel_rfl) (by kernel_rfl) (fun _ => by kernel_rfl) ?_
    refine plan_load (some 77) 30 (.tmp 76) (w.heap.size) 130 ((Fld G.h).toList) _ (by kernel_rfl) (by kernel_rfl) (by kernel_rfl) (by kernel_rfl) (by kernel_rfl) (fun _ h => h.2.2.1) Tryd.underlying30 rfl (by rw [Fld_length]; exact infoField) ?_
    refine plan_pure (some 78) (Value.int IntKind.u64 (cellsN G)) (by kernel_rfl) (by kernel_rfl) (by kernel_rfl) (fun _ => by kernel_rfl) ?_
    refine plan_load (some 80) 30 (.tmp 6) (N) 0 ((Fld zf).toList) _ (by kernel_rfl) (by kernel_rfl) (by kernel_rfl) (by kernel_rfl) (by kernel_rfl) (fun _ h => h.2.2.2.1) Tryd.underlying30 rfl (by rw [Fld_length]; exact infoField) ?_
    refine plan_call (some 79) 91 #[.agg (Fld G.h), .int .u64 (cellsN G)] (by kernel_rfl) (by kernel_rfl) (by kernel_rfl) (by kernel_rfl) (Calls.mono (outside_any G.h (cellsN G) m64 _ (vg_tab hgl HT.out HS) (vg_gl hgl HS)) ?_)
    rintro e w' ⟨rfl, hb⟩
    refine ⟨_, rfl, vg_step HS hb, ?_⟩
    replace HS := vg_step HS hb
    clear hb
    refine plan_pure (some 81) (Value.bool (eqF (outF G.h (cellsN G)) zf)) (by kernel_rfl) (by kernel_rfl) (by kernel_rfl) (run_eql_fld (x := .tmp 79) (y := .tmp 80) (t := 30) (by kernel_rfl) (by kernel_rfl) (by kernel_rfl)) ?_
    rw [c3]
    refine plan_pure (some 82) (Value.bool false) (by kernel_rfl) (by kernel_rfl) (by kernel_rfl) (fun _ => by kernel_rfl) ?_
    refine plan_do none undef _ (by kernel_rfl) (by kernel_rfl) (by kernel_rfl) (.inr ⟨run_store_op (x := .tmp 2) (y := .tmp 82) (b := w.heap.size + 1) (o := 0) (v := false) (by kernel_rfl) (by kernel_rfl) (by kernel_rfl) HS.2.2.2.2.1, rfl⟩) (vg_put _ hNn hnn hDn HS) ?_
    exact plan_end (NoPanic.normal (R ▸ HQ _ _ (by kernel_rfl) (by kernel_rfl) HS))
  · have R : true = r := by rw [← hR, c1, c2, c3]; rfl
    refine wp_region_plan (ops' := regOf Tryd.f57 12) (.take 0 (.take 1 (.take 2 (.take 4 (.run 3 (.take 5 (.take 6 (.take 7 (.take 8 (.take 9 (.take 11 (.run 10 (.take 12 (.take 13 (.take 14 (.take 15 (.take 16 (.take 17 (.take 19 (.run 18 (.take 20 (.take 21 (.run 22 .fin))))))))))))))))))))))) (fun w' => w'.rangeAt w.heap.size 2 (Fld G.c).toList ∧ w'.rangeAt w.heap.size 66 (Fld G.g).toList ∧ w'.rangeAt w.heap.size 130 (Fld G.h).toList ∧ w'.rangeAt N 0 (Fld zf).toList ∧ w'.there (w.heap.size + 1) 0 1 ∧ Hid (VgR w w.heap.size N D w')) (by kernel_rfl) (by kernel_rfl) (by kernel_rfl) (by kernel_rfl) (by kernel_rfl) (vg_drew SU) ?_
    have HS := vg_drew SU
    refine plan_pure (some 61) (Value.pointer (some ⟨w.heap.size, 2, none⟩)) (by kernel_rfl) (by kernel_rfl) (by kernel_rfl) (fun _ => by kernel_rfl) ?_
    refine plan_load (some 62) 30 (.tmp 61) (w.heap.size) 2 ((Fld G.c).toList) _ (by kernel_rfl) (by kernel_rfl) (by kernel_rfl) (by kernel_rfl) (by kernel_rfl) (fun _ h => h.1) Tryd.underlying30 rfl (by rw [Fld_length]; exact infoField) ?_
    refine plan_pure (some 63) (Value.int IntKind.u64 (cellsN G)) (by kernel_rfl) (by kernel_rfl) (by kernel_rfl) (fun _ => by kernel_rfl) ?_
    refine plan_load (some 65) 30 (.tmp 6) (N) 0 ((Fld zf).toList) _ (by kernel_rfl) (by kernel_rfl) (by kernel_rfl) (by kernel_rfl) (by kernel_rfl) (fun _ h => h.2.2.2.1) Tryd.underlying30 rfl (by rw [Fld_length]; exact infoField) ?_
    refine plan_call (some 64) 91 #[.agg (Fld G.c), .int .u64 (cellsN G)] (by kernel_rfl) (by kernel_rfl) (by kernel_rfl) (by kernel_rfl) (Calls.mono (outside_any G.c (cellsN G) m64 _ (vg_tab hgl HT.out HS) (vg_gl hgl HS)) ?_)
    rintro e w' ⟨rfl, hb⟩
    refine ⟨_, rfl, vg_step HS hb, ?_⟩
    replace HS := vg_step HS hb
    clear hb
    refine plan_pure (some 66) (Value.bool (eqF (outF G.c (cellsN G)) zf)) (by kernel_rfl) (by kernel_rfl) (by kernel_rfl) (run_eql_fld (x := .tmp 64) (y := .tmp 65) (t := 30) (by kernel_rfl) (by kernel_rfl) (by kernel_rfl)) ?_
    rw [c1]
    refine plan_pure (some 67) (Value.bool true) (by kernel_rfl) (by kernel_rfl) (by kernel_rfl) (fun _ => by kernel_rfl) ?_
    refine plan_pure (some 68) (Value.pointer (some ⟨w.heap.size, 66, none⟩)) (by kernel_rfl) (by kernel_rfl) (by kernel_rfl) (fun _ => by kernel_rfl) ?_
    refine plan_load (some 69) 30 (.tmp 68) (w.heap.size) 66 ((Fld G.g).toList) _ (by kernel_rfl) (by kernel_rfl) (by kernel_rfl) (by kernel_rfl) (by kernel_rfl) (fun _ h => h.2.1) Tryd.underlying30 rfl (by rw [Fld_length]; exact infoField) ?_
    refine plan_pure (some 70) (Value.int IntKind.u64 (cellsN G)) (by kernel_rfl) (by kernel_rfl) (by kernel_rfl) (fun _ => by kernel_rfl) ?_
    refine plan_load (some 72) 30 (.tmp 6) (N) 0 ((Fld zf).toList) _ (by kernel_rfl) (by kernel_rfl) (by kernel_rfl) (by kernel_rfl) (by kernel_rfl) (fun _ h => h.2.2.2.1) Tryd.underlying30 rfl (by rw [Fld_length]; exact infoField) ?_
    refine plan_call (some 71) 91 #[.agg (Fld G.g), .int .u64 (cellsN G)] (by kernel_rfl) (by kernel_rfl) (by kernel_rfl) (by kernel_rfl) (Calls.mono (outside_any G.g (cellsN G) m64 _ (vg_tab hgl HT.out HS) (vg_gl hgl HS)) ?_)
    rintro e w' ⟨rfl, hb⟩
    refine ⟨_, rfl, vg_step HS hb, ?_⟩
    replace HS := vg_step HS hb
    clear hb
    refine plan_pure (some 73) (Value.bool (eqF (outF G.g (cellsN G)) zf)) (by kernel_rfl) (by kernel_rfl) (by kernel_rfl) (run_eql_fld (x := .tmp 71) (y := .tmp 72) (t := 30) (by kernel_rfl) (by kernel_rfl) (by kernel_rfl)) ?_
    rw [c2]
    refine plan_pure (some 74) (Value.bool true) (by kernel_rfl) (by kernel_rfl) (by kernel_rfl) (fun _ => by kernel_rfl) ?_
    refine plan_pure (some 75) (Value.bool true) (by kernel_rfl) (by kernel_rfl) (by kernel_rfl) (fun _ => by kernel_rfl) ?_
    refine plan_pure (some 76) (Value.pointer (some ⟨w.heap.size, 130, none⟩)) (by kernel_rfl) (by kernel_rfl) (by kernel_rfl) (fun _ => by kernel_rfl) ?_
    refine plan_load (some 77) 30 (.tmp 76) (w.heap.size) 130 ((Fld G.h).toList) _ (by kernel_rfl) (by kernel_rfl) (by kernel_rfl) (by kernel_rfl) (by kernel_rfl) (fun _ h => h.2.2.1) Tryd.underlying30 rfl (by rw [Fld_length]; exact infoField) ?_
    refine plan_pure (some 78) (Value.int IntKind.u64 (cellsN G)) (by kernel_rfl) (by kernel_rfl) (by kernel_rfl) (fun _ => by kernel_rfl) ?_
    refine plan_load (some 80) 30 (.tmp 6) (N) 0 ((Fld zf).toList) _ (by kernel_rfl) (by kernel_rfl) (by kernel_rfl) (by kernel_rfl) (by kernel_rfl) (fun _ h => h.2.2.2.1) Tryd.underlying30 rfl (by rw [Fld_length]; exact infoField) ?_
    refine plan_call (some 79) 91 #[.agg (Fld G.h), .int .u64 (cellsN G)] (by kernel_rfl) (by kernel_rfl) (by kernel_rfl) (by kernel_rfl) (Calls.mono (outside_any G.h (cellsN G) m64 _ (vg_tab hgl HT.out HS) (vg_gl hgl HS)) ?_)
    rintro e w' ⟨rfl, hb⟩
    refine ⟨_, rfl, vg_step HS hb, ?_⟩
    replace HS := vg_step HS hb
    clear hb
    refine plan_pure (some 81) (Value.bool (eqF (outF G.h (cellsN G)) zf)) (by kernel_rfl) (by kernel_rfl) (by kernel_rfl) (run_eql_fld (x := .tmp 79) (y := .tmp 80) (t := 30) (by kernel_rfl) (by kernel_rfl) (by kernel_rfl)) ?_
    rw [c3]
    refine plan_pure (some 82) (Value.bool true) (by kernel_rfl) (by kernel_rfl) (by kernel_rfl) (fun _ => by kernel_rfl) ?_
    refine plan_do none undef _ (by kernel_rfl) (by kernel_rfl) (by kernel_rfl) (.inr ⟨run_store_op (x := .tmp 2) (y := .tmp 82) (b := w.heap.size + 1) (o := 0) (v := true) (by kernel_rfl) (by kernel_rfl) (by kernel_rfl) HS.2.2.2.2.1, rfl⟩) (vg_put _ hNn hnn hDn HS) ?_
    exact plan_end (NoPanic.normal (R ▸ HQ _ _ (by kernel_rfl) (by kernel_rfl) HS))

set_option maxRecDepth 100000 in
set_option maxHeartbeats 4000000 in
theorem vg_main (G : Gd) (Wn Hn : Nat) (hWn : G.wide = Wn) (hHn : G.high = Hn) (w8 : Wn ≤ 8) (h8 : Hn ≤ 8) (w : World) (hG : GdOk G) (e0 : extN G.wide = true) (e : extN G.high = true) (ex : (G.x != 0) = true) (ef : fixB G = true) (hT : TabAt w) (hgl : 0 < w.heap.size) (r : Bool)
    (hr : ((List.range 64).all (fun i => !isB G i || cellOk G i) && (eqF (outF G.c (cellsN G)) zf && (eqF (outF G.g (cellsN G)) zf && eqF (outF G.h (cellsN G)) zf))) = r) :
    Calls Tryd.prog 57 #[.agg (Grd G)] w fun e w' => e = .returned (.bool r) ∧ Below w.heap.size w w' := by
  obtain ⟨k0, k0'⟩ := hG.wide'
  obtain ⟨k1, k1'⟩ := hG.high'
  have x' := hG.x'
  refine (callsIn_wide (n := 6)).1 (callsIn_of_wp_marks Tryd.func57 rfl trivial ?_ rfl)
  simp only [Tryd.ntmps57, List.size_toArray, List.length_cons, List.length_nil, Nat.reduceAdd, Nat.reduceSub, Array.replicate_succ, Array.replicate_zero, List.push_toArray, List.append_toArray, List.nil_append, List.cons_append]
  refine wpIn_wide.2 ?_
  go_upto_region 1 with (fail)
  obtain ⟨W, hW, hz, hg, hc, hf, hB⟩ := vg_two G 32 4 w
  rw [hW]
  clear hW
  have a0 := hg.wide; have a1 := hg.high; have a2 := hg.x
  rw [Nat.zero_add] at a1 a2
  have E := Lib.hid e
  have E0 := Lib.hid e0
  have tk0 : True := trivial
  have Hg := Lib.hid hg
  have HW := Lib.hid hWn
  have HH := Lib.hid hHn
  have R := Lib.hid hr
  have HT := Lib.hid hT
  clear e e0 hG hg hWn hHn hr hT
  have e1 : (G.x == 0) = false := by simpa [bne] using ex
  have e2 : (bits .andNot .u64 G.x (cellsN G) == 0) = true := ef
  have e3 : (bits .andNot .u64 G.x (cellsN G) != 0) = false := by simp only [bne, e2]; rfl
  clear ex ef
  have m64 := cellsN_lt G
  go_wp2_with (first | (have _t := tk0; go_at_call 90; refine (isExtent_is _ true E0.out _).mono ?_; rintro e w' ⟨rfl, rfl⟩; clear tk0) | (go_at_call 90; refine (isExtent_is _ true E.out _).mono ?_; rintro e w' ⟨rfl, rfl⟩) | (go_at_call 59; refine (cells_any G Wn Hn HW.out HH.out w8 h8 _ _ Hg.out).mono ?_; rintro e w' ⟨rfl, rfl⟩) | (go_at_call 58; refine (bitsIn_any (cellsN G) _).mono ?_; rintro e w' ⟨rfl, rfl⟩))
  obtain ⟨V, hV, hz3, hg3, hc3, hf3, hm3, hB3⟩ := vg_three w G (cellsN G) 25 w.heap.size hz Hg.out hc hf hB
  rw [hV]
  clear hV a0 a1 a2 hB hc hf Hg HW HH E E0
  have hT3 := HT.out.below hB3 hgl
  refine (wpIn_wide (n := 6)).1 (wpIn_rangeFunc_ownF rfl (by omega) (gf := 92) (lb := #[.pointer (some ⟨w.heap.size + 1 + 1, 0, none⟩)]) rfl trivial (enters_of Tryd.func92 (by kernel_rfl) rfl)
    (bits_stops (cellsN G) m64 5 (by omega) (w.heap.size + 1 + 1) w.heap.size V (by omega) hgl (by omega) hm3 hT3) belowK_t (belowK_b (by omega)) (Below.refl _ _) (fun _ => rfl)
    (fun pre W => ((∀ y ∈ pre, cellOk G y.1 = true) ∧ GrdAt W w.heap.size 0 G ∧ W.cell? ⟨w.heap.size + 1, 0, none⟩ = some (.bool false) ∧ W.frozen? ⟨w.heap.size + 1, 0, none⟩ = false) ∧ Below w.heap.size w W)
    (fun c pre W => (c = .ret ∧ (∃ y ∈ pre, cellOk G y.1 = false) ∧ W.cell? ⟨w.heap.size + 1, 0, none⟩ = some (.bool false)) ∧ Below w.heap.size w W)
    (OwnFrom.and (Own.from (fun s A B row hs hg hr => ⟨hs.1, grd_own hs.2.1 hg hr, cell_kept hs.2.2.1 hg hr, (frozen_kept hs.2.2.1 hg hr).trans hs.2.2.2⟩) _) (ownFrom_below (Nat.le_refl _) (by omega)))
    (fun c => OwnFrom.and (Own.from (fun s A B row hs hg hr => ⟨hs.1, hs.2.1, cell_kept hs.2.2 hg hr⟩) _) (ownFrom_below (Nat.le_refl _) (by omega)))
    ⟨⟨by simp, hg3, hc3, hf3⟩, hB3⟩
    (fun x => { tmps := #[Value.agg (Grd G), Value.pointer (some { block := w.heap.size, off := 0 }),
          Value.pointer (some { block := w.heap.size + 1, off := 0 }), Value.int IntKind.u64 ↑(cellsN G), Value.int IntKind.i64 x.1, undef,
          undef, Value.pointer (some { block := w.heap.size, off := 0 }), Value.int IntKind.i8 G.wide,
          Value.int IntKind.i64 G.wide, Value.bool true, Value.bool false, Value.bool false,
          Value.pointer (some { block := w.heap.size, off := 1 }), Value.int IntKind.i8 G.high,
          Value.int IntKind.i64 G.high, Value.bool true, Value.bool false, Value.bool false,
          Value.int IntKind.u64 ↑(cellsN G), Value.pointer (some { block := w.heap.size, off := 194 }),
          Value.int IntKind.u64 G.x, Value.bool false, Value.bool false,
          Value.pointer (some { block := w.heap.size, off := 194 }), Value.int IntKind.u64 G.x,
          Value.int IntKind.u64 ↑(cellsN G), Value.int IntKind.u64 (bits BinOp.andNot IntKind.u64 G.x ↑(cellsN G)),
          Value.bool false, Value.bool false, Value.int IntKind.u64 ↑(cellsN G),
          Value.func (Fn.func 92) #[] #[Value.pointer (some { block := w.heap.size + 1 + 1, off := 0 })], Value.int IntKind.i64 x.1,
          undef, undef, undef, undef, undef, undef, undef, undef, undef, undef, undef, undef, undef, undef, undef, undef, undef, undef, undef, undef, undef, undef, undef, undef, undef,
          undef, undef, undef, undef, undef, undef, undef, undef, undef, undef, undef, undef, undef, undef, undef, undef, undef, undef, undef, undef, undef, undef, undef, undef, undef], defers := [] })
    ?assign ?body ?done ?stop)
  case assign =>
    intro l x W K hK
    dsimp only [encB]
    gi_wp2
    exact hK
  case body =>
    rintro l pre x W ⟨⟨h1, hg, hc, hf⟩, hB⟩ _
    have hx64 : x.1 < 64 := (mem_bitsL.1 x.2).1
    have c1 := Grd_fld hg.c x.1 hx64
    have c2 := Grd_fld hg.g x.1 hx64
    have c3 := Grd_fld hg.h x.1 hx64
    rw [Nat.zero_add] at c1 c2 c3
    have Hg := Lib.hid hg
    have H1 := Lib.hid h1
    clear hg h1
    have ko : Hid ((KeepsOthers W (W.setCell ⟨w.heap.size + 1, 0, none⟩ (.bool false)))) := KeepsOthers.setCell _ _ _
    have bw : Hid (Below w.heap.size w (W.setCell ⟨w.heap.size + 1, 0, none⟩ (.bool false))) := hB.setCell (p := ⟨w.heap.size + 1, 0, none⟩) (by simp) _
    have cw : Hid ((W.setCell ⟨w.heap.size + 1, 0, none⟩ (.bool false)).cell? ⟨w.heap.size + 1, 0, none⟩ = some (.bool false)) := World.cell?_setCell_same' _ _ _ (by rw [hc]; rfl)
    cases pc : plainB (G.c x.1)
    · have Bad := Lib.hid (show cellOk G x.1 = false by simp [cellOk, pc])
      gi_wp2_with (first | (refine ⟨trivial, ?_⟩; gi_at_call 70; refine (callsIn_wide.2 (isPlain_any _ _)).mono ?_; rintro e w' ⟨rfl, rfl⟩) | (refine ⟨trivial, ?_⟩))
      exact ⟨ko.out, ⟨rfl, ⟨x, by simp, Bad.out⟩, cw.out⟩, bw.out⟩
    cases pn : negB (G.c x.1)
    case true =>
      have Bad := Lib.hid (show cellOk G x.1 = false by simp [cellOk, pn])
      unfold negB at pn
      gi_wp2_with (first | (refine ⟨trivial, ?_⟩; gi_at_call 70; refine (callsIn_wide.2 (isPlain_any _ _)).mono ?_; rintro e w' ⟨rfl, rfl⟩) | (refine ⟨trivial, ?_⟩))
      exact ⟨ko.out, ⟨rfl, ⟨x, by simp, Bad.out⟩, cw.out⟩, bw.out⟩
    have Pn := Lib.hid pn
    unfold negB at pn
    cases pg : plainB (G.g x.1)
    · have Bad := Lib.hid (show cellOk G x.1 = false by simp [cellOk, pg])
      gi_wp2_with (first | (refine ⟨trivial, ?_⟩; gi_at_call 70; refine (callsIn_wide.2 (isPlain_any _ _)).mono ?_; rintro e w' ⟨rfl, rfl⟩) | (refine ⟨trivial, ?_⟩))
      exact ⟨ko.out, ⟨rfl, ⟨x, by simp, Bad.out⟩, cw.out⟩, bw.out⟩
    cases ph : plainB (G.h x.1)
    · have Bad := Lib.hid (show cellOk G x.1 = false by simp [cellOk, ph])
      gi_wp2_with (first | (refine ⟨trivial, ?_⟩; gi_at_call 70; refine (callsIn_wide.2 (isPlain_any _ _)).mono ?_; rintro e w' ⟨rfl, rfl⟩) | (refine ⟨trivial, ?_⟩))
      exact ⟨ko.out, ⟨rfl, ⟨x, by simp, Bad.out⟩, cw.out⟩, bw.out⟩
    have Good := Lib.hid (show cellOk G x.1 = true by simp [cellOk, pc, Pn.out, pg, ph])
    gi_wp2_with (first | (refine ⟨trivial, ?_⟩; gi_at_call 70; refine (callsIn_wide.2 (isPlain_any _ _)).mono ?_; rintro e w' ⟨rfl, rfl⟩) | (refine ⟨trivial, ?_⟩))
    exact ⟨KeepsOthers.refl _, Below.refl _ _, ⟨fun y hy => (List.mem_append.1 hy).elim (H1.out y) (fun e => by simp only [List.mem_singleton] at e; subst e; exact Good.out), Hg.out, hc, hf⟩, hB⟩
  case done =>
    rintro D ys W hD hys ⟨⟨h1, hg, hc, hf⟩, hB⟩ hK
    have hall : (List.range 64).all (fun i => !isB G i || cellOk G i) = true := all_yes fun i hi => by
      cases hb : isB G i
      · rfl
      · have hm : i ∈ ys.map (·.1) := by rw [hys]; exact mem_bitsL.2 ⟨hi, by rw [cellsN_testBit, hb]; simp [hi]⟩
        obtain ⟨y, hy, rfl⟩ := List.mem_map.1 hm
        simp [h1 y hy]
    rw [hall] at R
    clear hall h1 hys
    have hW1 : w.heap.size + 1 < W.heap.size := by have := (Array.getElem?_eq_some_iff.1 hK).1; omega
    have ht : (W.alloc (.cells (Fld zf) 30)).there W.heap.size 0 (Fld zf).size := there_row (heap_alloc_last W _) rfl
    go_upto_region 12 with (refine wpList_store_mid rfl 30 _ _ rfl _ 0 (Fld zf) rfl rfl ht (by rw [Fld_size]; exact infoField) (Fld_one _) ?_)
    obtain ⟨U, hU, SU⟩ := vg_nil (w := w) (G := G) 30 hK hW1 hg hc hf hB
    refine wp_world (w' := (W.alloc (.cells (Fld zf) 30)).setCells W.heap.size 0 (Fld zf).toList) rfl ?_
    rw [hU]
    have hDn : D ≠ w.heap.size + 1 := by omega
    have hNn : W.heap.size ≠ w.heap.size + 1 := by omega
    have hnn : w.heap.size ≤ w.heap.size + 1 := by omega
    clear hU ht hg hc hf hB hK hg3 hc3 hf3 hm3 hB3
    simp only [Act.put]
    refine region_named (ops' := regOf Tryd.f57 12) (by kernel_rfl) ?_
    refine vg_region G w W.heap.size D r (by simpa using R.out) m64 hgl HT hDn hNn hnn U SU _ _ ?_ _ _ _ _ _ _ _ _ _ _ _ _ _ _ _ _ _ _ _ _ _ _ _ _ _ _ _ _ _ _ _ _ _ _ _ _ _ _ _ _ _ _ _ _ _ _ _ _ _ _ _ _ _ _ _ _ _ _ _ _ _ _ _ _ _ _ _ _ _ _ _ _ _ _ _ _ _ _ _
    rintro ⟨T, df⟩ V (rfl : df = _) hT2 SV
    have SP := vg_put (.bool r) hNn hnn hDn SV
    have hc5 : (V.setCell ⟨w.heap.size + 1, 0, none⟩ (.bool r)).cell? ⟨w.heap.size + 1, 0, none⟩ = some (.bool r) := World.cell?_setCell_same' _ _ _ (by have := (SV.2.2.2.2.1 0 (by omega)).1; rwa [Nat.zero_add] at this)
    have hK1 := SP.2.2.2.2.2.out.dl
    have hB1 := SP.2.2.2.2.2.out.below
    clear SP SV
    go_wp2
    refine ⟨by simp, .inl ⟨_, _, rfl, run_takeDeferred hK1, ?_⟩⟩
    have hc6 := cell_kept hc5 (grownBy_putObj' _ D (.deferred none)) (fun r e => by cases e; exact ⟨_, hK1, rfl⟩)
    refine ⟨_, results_cell_bool rfl Tryd.underlying4 _ _ _ 0 r hT2 hc6, rfl, hB1.trans (belowK_b (w := w) (Nat.le_refl _) _ D _ _ (by omega) hK1 rfl rfl)⟩
  case stop =>
    rintro D c pre W hD _ ⟨⟨rfl, ⟨y, hy, hbad⟩, hcr⟩, hB⟩ hK
    gi_wp2
    refine ⟨by simp, .inl ⟨_, _, rfl, run_takeDeferred hK, ?_⟩⟩
    have hc5 := cell_kept hcr (grownBy_putObj' _ D (.deferred none)) (fun r e => by cases e; exact ⟨_, hK, rfl⟩)
    have hy64 := mem_bitsL.1 y.2
    have hbit : isB G y.1 = true := by have := hy64.2; rw [cellsN_testBit] at this; simp at this; exact this.2
    have hr0 : r = false := by rw [← R.out, all_no y.1 hy64.1 (by simp [hbit, hbad])]; rfl
    subst hr0
    refine ⟨_, results_cell_bool rfl Tryd.underlying4 _ _ _ 0 false rfl hc5, rfl, hB.trans (belowK_b (w := w) (Nat.le_refl _) W D _ _ (by omega) hK rfl rfl)⟩
end Go.Proofs.YtcfkkceidlpdkaaDoor
