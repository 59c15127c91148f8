/- The laws' comparison of fields and grounds says yes of what is the same. No condition. · What the laws over grounds share. No condition. · What the laws over grounds share: conversions under a guard, fields that are stored. No condition. · CellAt, BesideCell, CellsOf: the model's and the program's. Condition (the program's): the table of math/bits is laid. · WithHead, WithGain, WithConduct: the model's and the program's. Condition (the program's): the table of math/bits is laid. · CellsOf, WithFixed: the model's and the program's. Condition (the program's): the table of math/bits is laid. · Neighbours: the model's l01Beside, the program's beside; BesideCell. Condition (the program's): the table of math/bits is laid. · The program's cellSide.of and beside. No condition. -/
import Derived.Test.YtjhaonfdapldcaaDoorBase
import Derived.Test.YtjhaonfdapldcaaDoorChk
import Derived.Laws.EntriesVeiled
namespace Go.Proofs.YtjhaonfdapldcaaDoor

section
open Go.RowKit
set_option linter.unusedSimpArgs false

/-- Two fields are boxed. -/
theorem fbox2 (f g : Nat → Nat) (t u : TypeId) (w : World) : ∃ W, (w.alloc (.cells (Fld f) t)).alloc (.cells (Fld g) u) = W ∧ W.heap.size = w.heap.size + 1 + 1 ∧ W.rangeAt w.heap.size 0 (Fld f).toList ∧ W.rangeAt (w.heap.size + 1) 0 (Fld g).toList ∧ Below w.heap.size w W := two_boxes (Fld f) (Fld g) t u w

/-- The code after a load of a field. -/
theorem eqField_keep {n : Nat} {W V : World} {b o : Nat} {f : Nat → Nat} (h : W.rangeAt b o (Fld f).toList) (hB : Below n W V) (hb : b < n) : V.rangeAt b o (Fld f).toList := range_kept h hb V hB

end

section
open Go.RowKit
set_option maxRecDepth 100000

/-- A ground that has been stored in a block that has just been made. -/
theorem stored_box (A : Gd) (t : TypeId) (w : World) : ∃ U, (w.alloc (.cells (Grd zG) t)).setCells w.heap.size 0 (Grd A).toList = U ∧ U.heap.size = w.heap.size + 1 ∧ GBox U w.heap.size A ∧ Below w.heap.size w U := by
  obtain ⟨W, h, hs, g, hB⟩ := gbox1 zG t w
  rw [h]
  exact ⟨_, rfl, by rw [size_setCells, hs], g.store, below_setCells _ (Nat.le_refl _) _ _ _ hB⟩
theorem new_there (t : TypeId) (w : World) : (w.alloc (.cells (Grd zG) t)).there w.heap.size 0 195 := there_row (heap_alloc_last w _) (Grd_size zG)
end

section
open Go.RowKit
set_option maxRecDepth 100000

theorem zeroField : (Tryd.prog.info? 30).map (fun i => (i.zero, i.size)) = some (some (.agg (Fld zf)), 64) := by kernel_rfl
/-- A field that has been stored in a block that has just been made. -/
theorem stored_fld (f : Nat → Nat) (t : TypeId) (w : World) : ∃ U, (w.alloc (.cells (Fld zf) t)).setCells w.heap.size 0 (Fld f).toList = U ∧ U.heap.size = w.heap.size + 1 ∧ U.rangeAt w.heap.size 0 (Fld f).toList ∧ Below w.heap.size w U :=
  ⟨_, rfl, by rw [size_setCells]; simp, World.rangeAt_setCells_same _ _ _ _ (by rw [show (Fld f).toList.length = 64 from Fld_length f]; exact there_row (heap_alloc_last w _) (Fld_size zf)), below_setCells _ (Nat.le_refl _) _ _ _ ((Below.refl _ _).alloc (Nat.le_refl _) _)⟩
theorem new_thereF (t : TypeId) (w : World) : (w.alloc (.cells (Fld zf) t)).there w.heap.size 0 64 := there_row (heap_alloc_last w _) (Fld_size zf)
end

section
open Go.RowKit
set_option linter.unusedSimpArgs false

/-- Two numbers, as a result. -/
def II (a b : Int) : Value := .tuple #[.int .i64 a, .int .i64 b]
theorem ret_II {a b c d : Int} (h1 : a = c) (h2 : b = d) : Ending.returned (.tuple #[.int .i64 a, .int .i64 b]) = .returned (II c d) := by rw [h1, h2]; rfl

def cellAtN (G : Gd) (x y : Int) : Int × Int := if validB G = true then (if holdB G x y = true then (x + 8 * y, 0) else (0, 2)) else (0, 1)
end

section
open Go.RowKit
attribute [local go_sem] run_store_float
set_option linter.unusedSimpArgs false

/-- The code, and the ground, of a change at a cell that leads to H. -/
def withN (G H : Gd) (c : Int) : Int := if askedN G c = 0 then madeN H else askedN G c
def withG (G H : Gd) (c : Int) : Gd := if askedN G c = 0 then madeG H else zG

theorem asked_in {G : Gd} {c : Int} (h : askedN G c = 0) : ∃ k : Nat, c = k ∧ k < 64 ∧ validB G = true ∧ isB G k = true := by
  unfold askedN at h
  split at h
  · rename_i hv
    split at h
    · rename_i hi
      obtain ⟨k, h1, h2, h3⟩ := inB_cast hi
      exact ⟨k, h1, h2, hv, h3⟩
    · cases h
  · cases h
theorem upd_has {f : Nat → Nat} {k b : Nat} (hf : ∀ i, i < 64 → FloatKind.f32.has (f i)) (hb : FloatKind.f32.has b) : ∀ i, i < 64 → FloatKind.f32.has (upd f k b i) := fun i hi => by
  unfold upd
  split
  · exact hb
  · exact hf i hi

theorem ok_h {G : Gd} {k b : Nat} (hG : GdOk G) (_hb : FloatKind.f32.has b) : GdOk { G with h := upd G.h k b } := ⟨hG.wide, hG.high, hG.x, hG.c, hG.g, fun _ _ => trivial⟩

theorem ok_g {G : Gd} {k b : Nat} (hG : GdOk G) (hb : FloatKind.f32.has b) : GdOk { G with g := upd G.g k b } := ⟨hG.wide, hG.high, hG.x, hG.c, upd_has hG.g hb, hG.h⟩

theorem ok_c {G : Gd} {k b : Nat} (hG : GdOk G) (hb : FloatKind.f32.has b) : GdOk { G with c := upd G.c k b } := ⟨hG.wide, hG.high, hG.x, upd_has hG.c hb, hG.g, hG.h⟩

end

section
open Go.RowKit
set_option linter.unusedSimpArgs false

/-- Bits and a number, as a result. -/
def UI (a b : Int) : Value := .tuple #[.int .u64 a, .int .i64 b]
theorem ret_UI {a b c d : Int} (h1 : a = c) (h2 : b = d) : Ending.returned (.tuple #[.int .u64 a, .int .i64 b]) = .returned (UI c d) := by rw [h1, h2]; rfl

def cellsOfN (G : Gd) : Int × Int := if validB G = true then ((cellsN G : Int), 0) else (0, 1)

/-- The program's cells, of a valid ground. -/
theorem cells_valid (G : Gd) (hv : validB G = true) (p : Nat) (w : World) (hp : GrdAt w p 0 G) :
    Calls Tryd.prog 36 #[.pointer (some ⟨p, 0, none⟩)] w fun e w' => e = .returned (.int .u64 (cellsN G)) ∧ w = w' := by
  obtain ⟨v1, v2, v3, v4⟩ := valid_ext hv
  exact cells_any G G.wide.toNat G.high.toNat (by omega) (by omega) (by omega) (by omega) p w hp

set_option maxRecDepth 100000 in
set_option maxHeartbeats 1000000 in
theorem implCellsOf_any (G : Gd) (w : World) (hG : GdOk G) (hT : TabAt w) :
    Calls Tryd.prog 23 #[.agg (Grd G)] w fun e w' => e = .returned (UI (cellsOfN G).1 (cellsOfN G).2) ∧ Below w.heap.size w w' := by
  go_enter Tryd.func23, Tryd.ntmps23
  go_upto_region 1 with (fail)
  obtain ⟨W, hW, hs, g1, hB, hT1⟩ := box_in G 32 w hT
  rw [hW]
  clear hW
  have r1 := g1.range
  have G1 := Lib.hid g1
  have HB := Lib.hid hB
  have HG := Lib.hid hG
  have HT := Lib.hid hT1
  have Hs := Lib.hid hs
  clear g1 hB hs hG hT hT1
  cases hv : validB G
  · have Hv := Lib.hid hv
    have R := Lib.hid (show cellsOfN G = (0, 1) by simp [cellsOfN, hv])
    clear hv
    go_wp2_with (first | (refine wpList_load_mid rfl 32 _ rfl w.heap.size 0 rfl (GrdL G) _ r1 Tryd.underlying32 rfl (by rw [GrdL_length]; exact infoGround) ?_) | (go_at_call 29; have hc := (validGround_any G W HG.out HT.out (tab_lt HT.out)); rw [Hv.out] at hc; refine hc.mono ?_; clear hc; rintro e w1 ⟨rfl, hb1⟩))
    go_ret2
    exact ⟨ret_UI (by rw [R.out]) (by rw [R.out]), HB.out.trans (hb1.mono (by have := Hs.out; omega))⟩
  · have Hv := Lib.hid hv
    have R := Lib.hid (show cellsOfN G = ((cellsN G : Int), 0) by simp [cellsOfN, hv])
    clear hv
    go_wp2_with (first | (refine wpList_load_mid rfl 32 _ rfl w.heap.size 0 rfl (GrdL G) _ r1 Tryd.underlying32 rfl (by rw [GrdL_length]; exact infoGround) ?_) | (go_at_call 29; have hc := (validGround_any G W HG.out HT.out (tab_lt HT.out)); rw [Hv.out] at hc; refine hc.mono ?_; clear hc; rintro e w1 ⟨rfl, hb1⟩) | (go_at_call 36; refine (cells_valid G Hv.out _ _ (G1.out.at'.below hb1 (by have := Hs.out; omega))).mono ?_; rintro e w2 ⟨rfl, rfl⟩))
    go_ret2
    exact ⟨ret_UI (by rw [R.out]) (by rw [R.out]), HB.out.trans (hb1.mono (by have := Hs.out; omega))⟩
end

section
open Go.RowKit
set_option linter.unusedSimpArgs false

/-- The place on a side of a cell's. -/
def nx (k : Nat) (s : Int) : Int := ((k % 8 : Nat) : Int) + (if s = 1 then 1 else if s = 3 then -1 else 0)
def ny (k : Nat) (s : Int) : Int := ((k / 8 : Nat) : Int) + (if s = 0 then -1 else if s = 2 then 1 else 0)
/-- There is a neighbour; its number. -/
def nbB (G : Gd) (k : Nat) (s : Int) : Bool := holdB G (nx k s) (ny k s)
def nb (k : Nat) (s : Int) : Int := nx k s + 8 * ny k s

theorem side_cases {s : Int} (h : sideB s = true) : s = 0 ∨ s = 1 ∨ s = 2 ∨ s = 3 := by
  simp only [sideB, Bool.and_eq_true, decide_eq_true_eq] at h
  omega

/-- What l01Beside says. -/
def besideN (G : Gd) (k : Nat) (s : Int) : Int := if nbB G k s = true then nb k s else -1

set_option maxRecDepth 100000 in
set_option maxHeartbeats 1000000 in
theorem l01Beside_any (G : Gd) (k : Nat) (hk : k < 64) (s : Int) (hs : sideB s = true) (p : Nat) (w : World) (hp : GrdAt w p 0 G) (hG : GdOk G) :
    Calls Tryd.prog 72 #[.pointer (some ⟨p, 0, none⟩), .int .i64 k, .int .i64 s] w fun e w' => e = .returned (.int .i64 (besideN G k s)) ∧ w = w' := by
  have a0 := hp.wide; have a1 := hp.high
  rw [Nat.zero_add] at a1
  obtain ⟨k0, k0'⟩ := hG.wide'
  obtain ⟨k1, k1'⟩ := hG.high'
  clear hp hG
  rcases side_cases hs with rfl | rfl | rfl | rfl
  all_goals
    clear hs
    go_enter Tryd.func72, Tryd.ntmps72
    go_wp2_with (go_at_call 51; refine (l00In_any _ _ _ _).mono ?_; rintro e w' ⟨rfl, rfl⟩)
    all_goals
      go_ret
      refine ⟨ret_i64 ?_, rfl⟩
      try simp only [Bool.not_eq_true', Bool.not_eq_false', decide_eq_false_iff_not, decide_eq_true_eq] at *
      simp only [besideN, nbB, holdB, nb, nx, ny, Bool.and_eq_true, decide_eq_true_eq]
      simp
      first | (intros; omega) | (split <;> omega)

def besideCellN (G : Gd) (c s : Int) : Int × Int := if sidedN G c s = 0 then (if nbB G c.toNat s = true then (nb c.toNat s, 0) else (0, 6)) else (0, sidedN G c s)
theorem sided_in {G : Gd} {c s : Int} (h : sidedN G c s = 0) : ∃ k : Nat, c = k ∧ k < 64 ∧ validB G = true ∧ isB G k = true ∧ sideB s = true := by
  unfold sidedN at h
  split at h
  · rename_i ha
    split at h
    · rename_i hs
      obtain ⟨k, h1, h2, h3, h4⟩ := asked_in ha
      exact ⟨k, h1, h2, h3, h4, hs⟩
    · cases h
  · rename_i ha
    exact absurd h ha
theorem nb_range {G : Gd} {k : Nat} {s : Int} (hv : validB G = true) (h : nbB G k s = true) : 0 ≤ nb k s ∧ nb k s ≤ 63 ∧ 0 ≤ nx k s ∧ nx k s ≤ 7 ∧ 0 ≤ ny k s ∧ ny k s ≤ 7 := by
  obtain ⟨v1, v2, v3, v4⟩ := valid_ext hv
  simp only [nbB, holdB, Bool.and_eq_true, decide_eq_true_eq] at h
  obtain ⟨h1, h2, h3, h4⟩ := h
  unfold nb
  omega

theorem north_any (x y : Int) (h1 : -1000 ≤ y) (h2 : y ≤ 1000) (w : World) : Calls Tryd.prog 87 #[Plc x y] w fun e w' => e = .returned (Plc x (y - 1)) ∧ Below w.heap.size w w' := by
  unfold Plc
  go_enter Tryd.func87, Tryd.ntmps87
  go_wp2
  refine bodyPost_ret (v := .agg #[.int .i64 x, .int .i64 (y - 1)]) (by simp [results, Tryd.results87, go_sem]) rfl ⟨rfl, ?_⟩
  exact ((Below.refl _ _).alloc (Nat.le_refl _) _).alloc (by simp) _
theorem south_any (x y : Int) (h1 : -1000 ≤ y) (h2 : y ≤ 1000) (w : World) : Calls Tryd.prog 89 #[Plc x y] w fun e w' => e = .returned (Plc x (y + 1)) ∧ Below w.heap.size w w' := by
  unfold Plc
  go_enter Tryd.func89, Tryd.ntmps89
  go_wp2
  refine bodyPost_ret (v := .agg #[.int .i64 x, .int .i64 (y + 1)]) (by simp [results, Tryd.results89, go_sem]) rfl ⟨rfl, ?_⟩
  exact ((Below.refl _ _).alloc (Nat.le_refl _) _).alloc (by simp) _
theorem east_any (x y : Int) (h1 : -1000 ≤ x) (h2 : x ≤ 1000) (w : World) : Calls Tryd.prog 88 #[Plc x y] w fun e w' => e = .returned (Plc (x + 1) y) ∧ Below w.heap.size w w' := by
  unfold Plc
  go_enter Tryd.func88, Tryd.ntmps88
  go_wp2
  refine bodyPost_ret (v := .agg #[.int .i64 (x + 1), .int .i64 y]) (by simp [results, Tryd.results88, go_sem]) rfl ⟨rfl, ?_⟩
  exact ((Below.refl _ _).alloc (Nat.le_refl _) _).alloc (by simp) _
theorem west_any (x y : Int) (h1 : -1000 ≤ x) (h2 : x ≤ 1000) (w : World) : Calls Tryd.prog 90 #[Plc x y] w fun e w' => e = .returned (Plc (x - 1) y) ∧ Below w.heap.size w w' := by
  unfold Plc
  go_enter Tryd.func90, Tryd.ntmps90
  go_wp2
  refine bodyPost_ret (v := .agg #[.int .i64 (x - 1), .int .i64 y]) (by simp [results, Tryd.results90, go_sem]) rfl ⟨rfl, ?_⟩
  exact ((Below.refl _ _).alloc (Nat.le_refl _) _).alloc (by simp) _
end

section
open Go.RowKit
set_option linter.unusedSimpArgs false

/-- Three blocks, one behind the other. -/
theorem three_boxes (A B C : Array Value) (t u v : TypeId) (w : World) : ∃ W, ((w.alloc (.cells A t)).alloc (.cells B u)).alloc (.cells C v) = W ∧ W.heap.size = w.heap.size + 1 + 1 + 1 ∧ W.rangeAt w.heap.size 0 A.toList ∧ W.rangeAt (w.heap.size + 1) 0 B.toList ∧ W.there (w.heap.size + 1) 0 B.size ∧ W.rangeAt (w.heap.size + 1 + 1) 0 C.toList ∧ Below w.heap.size w W := by
  obtain ⟨W1, h1⟩ : ∃ W1, w.alloc (.cells A t) = W1 := ⟨_, rfl⟩
  obtain ⟨W2, h2⟩ : ∃ W2, W1.alloc (.cells B u) = W2 := ⟨_, rfl⟩
  have z1 : W1.heap.size = w.heap.size + 1 := by rw [← h1]; simp
  have z2 : W2.heap.size = w.heap.size + 1 + 1 := by rw [← h2]; simp [z1]
  have b1 : Below w.heap.size w W1 := by rw [← h1]; exact (Below.refl _ _).alloc (Nat.le_refl _) _
  have b2 : Below W1.heap.size W1 W2 := by rw [← h2]; exact (Below.refl _ _).alloc (Nat.le_refl _) _
  have b3 : Below W2.heap.size W2 (W2.alloc (.cells C v)) := (Below.refl _ _).alloc (Nat.le_refl _) _
  have r1 : W1.rangeAt w.heap.size 0 A.toList := by rw [← h1]; exact rangeAt_row (heap_alloc_last w _)
  have r2 : W2.rangeAt (w.heap.size + 1) 0 B.toList := by rw [← h2, ← z1]; exact rangeAt_row (heap_alloc_last W1 _)
  have t2 : W2.there (w.heap.size + 1) 0 B.size := by rw [← h2, ← z1]; exact there_row (heap_alloc_last W1 _) rfl
  have r3 : (W2.alloc (.cells C v)).rangeAt (w.heap.size + 1 + 1) 0 C.toList := by rw [← z2]; exact rangeAt_row (heap_alloc_last W2 _)
  rw [h1, h2]
  refine ⟨_, rfl, by simp [z2], range_kept (n := W2.heap.size) (range_kept (n := W1.heap.size) r1 (by omega) _ b2) (by omega) _ b3, range_kept (n := W2.heap.size) r2 (by omega) _ b3, there_below t2 b3 (by omega), r3, (b1.trans (b2.mono (by omega))).trans (b3.mono (by omega))⟩

theorem infoPlace : (Tryd.prog.info? 102).map (·.size) = some 2 := by kernel_rfl

set_option maxRecDepth 100000 in
set_option maxHeartbeats 1000000 in
theorem of_0 (x y : Int) (_h1 : 0 ≤ x) (_h2 : x ≤ 7) (_h3 : 0 ≤ y) (_h4 : y ≤ 7) (w : World) :
    Calls Tryd.prog 74 #[Value.int .i64 0, Plc x y] w fun e w' => e = .returned (Plc x (y - 1)) ∧ Below w.heap.size w w' := by
  unfold Plc
  go_enter Tryd.func74, Tryd.ntmps74
  go_wp2
  obtain ⟨W, hW, hz, r1, r2, t2, r3, hB⟩ := three_boxes #[Value.int .i64 x, .int .i64 y] #[Value.int .i64 0, .int .i64 0] #[.func (.func 87) #[] #[], .func (.func 88) #[] #[], .func (.func 89) #[] #[], .func (.func 90) #[] #[]] 102 102 113 w
  refine wp_world (w' := W) hW ?_
  clear hW
  have c0 := r3 0 _ rfl
  rw [Nat.zero_add] at c0
  refine wp_region_calm (ops' := regOf Tryd.f74 2) [0, 1, 2, 3, 4] [5] (.run 5 .fin) (Below (w.heap.size + 1 + 1 + 1) W) [(0, One (.int .i64 0)), (1, One (.pointer (some ⟨w.heap.size + 1 + 1, 0, none⟩))), (2, One (.func (.func 87) #[] #[])), (3, One (.agg (#[Value.int .i64 x, .int .i64 y]))), (4, One (Plc x (y - 1)))] (by kernel_rfl) (by kernel_rfl) (by kernel_rfl) (by kernel_rfl) (by kernel_rfl) (by kernel_rfl) (by kernel_rfl) (by kernel_rfl) rfl ((Below.refl _ _).drew) ?_
  refine calm_pure (some 7) (by kernel_rfl) (by kernel_rfl) (by kernel_rfl) (fun _ => by kernel_rfl) ?_
  refine calm_pure (some 8) (by kernel_rfl) (by kernel_rfl) (by kernel_rfl) (fun _ => by kernel_rfl) ?_
  refine calm_read (some 9) (by kernel_rfl) (by kernel_rfl) (by kernel_rfl) (fun w' hw' => load_cell (ty := 103) (x := .tmp 8) (b := w.heap.size + 1 + 1) (o := 0) (by kernel_rfl) (by kernel_rfl) Tryd.underlying103 rfl ((hw'.cell (p := ⟨w.heap.size + 1 + 1, 0, none⟩) (by simp)).trans c0)) ?_
  refine calm_load (some 10) 102 (.tmp 3) (w.heap.size) 0 _ (by kernel_rfl) (by kernel_rfl) (by kernel_rfl) (by kernel_rfl) (by kernel_rfl) (fun w' hw' => range_kept r1 (by omega) w' hw') Tryd.underlying102 rfl infoPlace ?_
  refine calm_call (some 11) 87 #[Plc x y] ⟨_, rfl⟩ (by kernel_rfl) (by kernel_rfl) (by kernel_rfl) (fun _ => by kernel_rfl) (fun w' hw' => (north_any x y (by omega) (by omega) w').mono fun e w2 h => ⟨_, h.1, rfl, below_step hw' h.2 (by have := hw'.size; omega)⟩) ?_
  rintro _ rfl
  refine calm_end fun w' hw' => ?_
  have t3 := there_below t2 hw' (by omega)
  refine plan_do none undef (w'.setCells (w.heap.size + 1) 0 [Value.int .i64 x, Value.int .i64 (y - 1)]) (by kernel_rfl) (by kernel_rfl) (by kernel_rfl) (.inr ⟨store_op (x := .tmp 4) (y := .tmp 11) (cs := #[Value.int .i64 x, .int .i64 (y - 1)]) (by kernel_rfl) (by kernel_rfl) (by kernel_rfl) t3 infoPlace (by kernel_rfl), rfl⟩) trivial (plan_end (Clean.normal ?_))
  have hr := World.rangeAt_setCells_same w' (w.heap.size + 1) 0 [Value.int .i64 x, .int .i64 (y - 1)] t3
  have hb := below_setCells (B := w.heap.size) (a := w) (w.heap.size + 1) (by omega) [Value.int .i64 x, .int .i64 (y - 1)] 0 w' (hB.trans (hw'.mono (by omega)))
  obtain ⟨X, hX⟩ : ∃ X, w'.setCells (w.heap.size + 1) 0 [Value.int .i64 x, .int .i64 (y - 1)] = X := ⟨_, rfl⟩
  rw [hX] at hr hb ⊢
  clear hX t3 c0 r1 r2 r3 t2
  simp only [Act.put, List.setIfInBounds_toArray, List.set_cons_zero, List.set_cons_succ]
  go_wp2
  exact bodyPost_ret (results_cell_mid rfl _ _ _ 0 _ _ rfl hr Tryd.underlying102 rfl infoPlace) rfl ⟨rfl, hb⟩

set_option maxRecDepth 100000 in
set_option maxHeartbeats 1000000 in
theorem of_1 (x y : Int) (_h1 : 0 ≤ x) (_h2 : x ≤ 7) (_h3 : 0 ≤ y) (_h4 : y ≤ 7) (w : World) :
    Calls Tryd.prog 74 #[Value.int .i64 1, Plc x y] w fun e w' => e = .returned (Plc (x + 1) y) ∧ Below w.heap.size w w' := by
  unfold Plc
  go_enter Tryd.func74, Tryd.ntmps74
  go_wp2
  obtain ⟨W, hW, hz, r1, r2, t2, r3, hB⟩ := three_boxes #[Value.int .i64 x, .int .i64 y] #[Value.int .i64 0, .int .i64 0] #[.func (.func 87) #[] #[], .func (.func 88) #[] #[], .func (.func 89) #[] #[], .func (.func 90) #[] #[]] 102 102 113 w
  refine wp_world (w' := W) hW ?_
  clear hW
  have c1 := r3 1 _ rfl
  rw [Nat.zero_add] at c1
  refine wp_region_calm (ops' := regOf Tryd.f74 2) [0, 1, 2, 3, 4] [5] (.run 5 .fin) (Below (w.heap.size + 1 + 1 + 1) W) [(0, One (.int .i64 1)), (1, One (.pointer (some ⟨w.heap.size + 1 + 1, 1, none⟩))), (2, One (.func (.func 88) #[] #[])), (3, One (.agg (#[Value.int .i64 x, .int .i64 y]))), (4, One (Plc (x + 1) y))] (by kernel_rfl) (by kernel_rfl) (by kernel_rfl) (by kernel_rfl) (by kernel_rfl) (by kernel_rfl) (by kernel_rfl) (by kernel_rfl) rfl ((Below.refl _ _).drew) ?_
  refine calm_pure (some 7) (by kernel_rfl) (by kernel_rfl) (by kernel_rfl) (fun _ => by kernel_rfl) ?_
  refine calm_pure (some 8) (by kernel_rfl) (by kernel_rfl) (by kernel_rfl) (fun _ => by kernel_rfl) ?_
  refine calm_read (some 9) (by kernel_rfl) (by kernel_rfl) (by kernel_rfl) (fun w' hw' => load_cell (ty := 103) (x := .tmp 8) (b := w.heap.size + 1 + 1) (o := 1) (by kernel_rfl) (by kernel_rfl) Tryd.underlying103 rfl ((hw'.cell (p := ⟨w.heap.size + 1 + 1, 1, none⟩) (by simp)).trans c1)) ?_
  refine calm_load (some 10) 102 (.tmp 3) (w.heap.size) 0 _ (by kernel_rfl) (by kernel_rfl) (by kernel_rfl) (by kernel_rfl) (by kernel_rfl) (fun w' hw' => range_kept r1 (by omega) w' hw') Tryd.underlying102 rfl infoPlace ?_
  refine calm_call (some 11) 88 #[Plc x y] ⟨_, rfl⟩ (by kernel_rfl) (by kernel_rfl) (by kernel_rfl) (fun _ => by kernel_rfl) (fun w' hw' => (east_any x y (by omega) (by omega) w').mono fun e w2 h => ⟨_, h.1, rfl, below_step hw' h.2 (by have := hw'.size; omega)⟩) ?_
  rintro _ rfl
  refine calm_end fun w' hw' => ?_
  have t3 := there_below t2 hw' (by omega)
  refine plan_do none undef (w'.setCells (w.heap.size + 1) 0 [Value.int .i64 (x + 1), Value.int .i64 y]) (by kernel_rfl) (by kernel_rfl) (by kernel_rfl) (.inr ⟨store_op (x := .tmp 4) (y := .tmp 11) (cs := #[Value.int .i64 (x + 1), .int .i64 y]) (by kernel_rfl) (by kernel_rfl) (by kernel_rfl) t3 infoPlace (by kernel_rfl), rfl⟩) trivial (plan_end (Clean.normal ?_))
  have hr := World.rangeAt_setCells_same w' (w.heap.size + 1) 0 [Value.int .i64 (x + 1), .int .i64 y] t3
  have hb := below_setCells (B := w.heap.size) (a := w) (w.heap.size + 1) (by omega) [Value.int .i64 (x + 1), .int .i64 y] 0 w' (hB.trans (hw'.mono (by omega)))
  obtain ⟨X, hX⟩ : ∃ X, w'.setCells (w.heap.size + 1) 0 [Value.int .i64 (x + 1), .int .i64 y] = X := ⟨_, rfl⟩
  rw [hX] at hr hb ⊢
  clear hX t3 c1 r1 r2 r3 t2
  simp only [Act.put, List.setIfInBounds_toArray, List.set_cons_zero, List.set_cons_succ]
  go_wp2
  exact bodyPost_ret (results_cell_mid rfl _ _ _ 0 _ _ rfl hr Tryd.underlying102 rfl infoPlace) rfl ⟨rfl, hb⟩

set_option maxRecDepth 100000 in
set_option maxHeartbeats 1000000 in
theorem of_2 (x y : Int) (_h1 : 0 ≤ x) (_h2 : x ≤ 7) (_h3 : 0 ≤ y) (_h4 : y ≤ 7) (w : World) :
    Calls Tryd.prog 74 #[Value.int .i64 2, Plc x y] w fun e w' => e = .returned (Plc x (y + 1)) ∧ Below w.heap.size w w' := by
  unfold Plc
  go_enter Tryd.func74, Tryd.ntmps74
  go_wp2
  obtain ⟨W, hW, hz, r1, r2, t2, r3, hB⟩ := three_boxes #[Value.int .i64 x, .int .i64 y] #[Value.int .i64 0, .int .i64 0] #[.func (.func 87) #[] #[], .func (.func 88) #[] #[], .func (.func 89) #[] #[], .func (.func 90) #[] #[]] 102 102 113 w
  refine wp_world (w' := W) hW ?_
  clear hW
  have c2 := r3 2 _ rfl
  rw [Nat.zero_add] at c2
  refine wp_region_calm (ops' := regOf Tryd.f74 2) [0, 1, 2, 3, 4] [5] (.run 5 .fin) (Below (w.heap.size + 1 + 1 + 1) W) [(0, One (.int .i64 2)), (1, One (.pointer (some ⟨w.heap.size + 1 + 1, 2, none⟩))), (2, One (.func (.func 89) #[] #[])), (3, One (.agg (#[Value.int .i64 x, .int .i64 y]))), (4, One (Plc x (y + 1)))] (by kernel_rfl) (by kernel_rfl) (by kernel_rfl) (by kernel_rfl) (by kernel_rfl) (by kernel_rfl) (by kernel_rfl) (by kernel_rfl) rfl ((Below.refl _ _).drew) ?_
  refine calm_pure (some 7) (by kernel_rfl) (by kernel_rfl) (by kernel_rfl) (fun _ => by kernel_rfl) ?_
  refine calm_pure (some 8) (by kernel_rfl) (by kernel_rfl) (by kernel_rfl) (fun _ => by kernel_rfl) ?_
  refine calm_read (some 9) (by kernel_rfl) (by kernel_rfl) (by kernel_rfl) (fun w' hw' => load_cell (ty := 103) (x := .tmp 8) (b := w.heap.size + 1 + 1) (o := 2) (by kernel_rfl) (by kernel_rfl) Tryd.underlying103 rfl ((hw'.cell (p := ⟨w.heap.size + 1 + 1, 2, none⟩) (by simp)).trans c2)) ?_
  refine calm_load (some 10) 102 (.tmp 3) (w.heap.size) 0 _ (by kernel_rfl) (by kernel_rfl) (by kernel_rfl) (by kernel_rfl) (by kernel_rfl) (fun w' hw' => range_kept r1 (by omega) w' hw') Tryd.underlying102 rfl infoPlace ?_
  refine calm_call (some 11) 89 #[Plc x y] ⟨_, rfl⟩ (by kernel_rfl) (by kernel_rfl) (by kernel_rfl) (fun _ => by kernel_rfl) (fun w' hw' => (south_any x y (by omega) (by omega) w').mono fun e w2 h => ⟨_, h.1, rfl, below_step hw' h.2 (by have := hw'.size; omega)⟩) ?_
  rintro _ rfl
  refine calm_end fun w' hw' => ?_
  have t3 := there_below t2 hw' (by omega)
  refine plan_do none undef (w'.setCells (w.heap.size + 1) 0 [Value.int .i64 x, Value.int .i64 (y + 1)]) (by kernel_rfl) (by kernel_rfl) (by kernel_rfl) (.inr ⟨store_op (x := .tmp 4) (y := .tmp 11) (cs := #[Value.int .i64 x, .int .i64 (y + 1)]) (by kernel_rfl) (by kernel_rfl) (by kernel_rfl) t3 infoPlace (by kernel_rfl), rfl⟩) trivial (plan_end (Clean.normal ?_))
  have hr := World.rangeAt_setCells_same w' (w.heap.size + 1) 0 [Value.int .i64 x, .int .i64 (y + 1)] t3
  have hb := below_setCells (B := w.heap.size) (a := w) (w.heap.size + 1) (by omega) [Value.int .i64 x, .int .i64 (y + 1)] 0 w' (hB.trans (hw'.mono (by omega)))
  obtain ⟨X, hX⟩ : ∃ X, w'.setCells (w.heap.size + 1) 0 [Value.int .i64 x, .int .i64 (y + 1)] = X := ⟨_, rfl⟩
  rw [hX] at hr hb ⊢
  clear hX t3 c2 r1 r2 r3 t2
  simp only [Act.put, List.setIfInBounds_toArray, List.set_cons_zero, List.set_cons_succ]
  go_wp2
  exact bodyPost_ret (results_cell_mid rfl _ _ _ 0 _ _ rfl hr Tryd.underlying102 rfl infoPlace) rfl ⟨rfl, hb⟩

set_option maxRecDepth 100000 in
set_option maxHeartbeats 1000000 in
theorem of_3 (x y : Int) (_h1 : 0 ≤ x) (_h2 : x ≤ 7) (_h3 : 0 ≤ y) (_h4 : y ≤ 7) (w : World) :
    Calls Tryd.prog 74 #[Value.int .i64 3, Plc x y] w fun e w' => e = .returned (Plc (x - 1) y) ∧ Below w.heap.size w w' := by
  unfold Plc
  go_enter Tryd.func74, Tryd.ntmps74
  go_wp2
  obtain ⟨W, hW, hz, r1, r2, t2, r3, hB⟩ := three_boxes #[Value.int .i64 x, .int .i64 y] #[Value.int .i64 0, .int .i64 0] #[.func (.func 87) #[] #[], .func (.func 88) #[] #[], .func (.func 89) #[] #[], .func (.func 90) #[] #[]] 102 102 113 w
  refine wp_world (w' := W) hW ?_
  clear hW
  have c3 := r3 3 _ rfl
  rw [Nat.zero_add] at c3
  refine wp_region_calm (ops' := regOf Tryd.f74 2) [0, 1, 2, 3, 4] [5] (.run 5 .fin) (Below (w.heap.size + 1 + 1 + 1) W) [(0, One (.int .i64 3)), (1, One (.pointer (some ⟨w.heap.size + 1 + 1, 3, none⟩))), (2, One (.func (.func 90) #[] #[])), (3, One (.agg (#[Value.int .i64 x, .int .i64 y]))), (4, One (Plc (x - 1) y))] (by kernel_rfl) (by kernel_rfl) (by kernel_rfl) (by kernel_rfl) (by kernel_rfl) (by kernel_rfl) (by kernel_rfl) (by kernel_rfl) rfl ((Below.refl _ _).drew) ?_
  refine calm_pure (some 7) (by kernel_rfl) (by kernel_rfl) (by kernel_rfl) (fun _ => by kernel_rfl) ?_
  refine calm_pure (some 8) (by kernel_rfl) (by kernel_rfl) (by kernel_rfl) (fun _ => by kernel_rfl) ?_
  refine calm_read (some 9) (by kernel_rfl) (by kernel_rfl) (by kernel_rfl) (fun w' hw' => load_cell (ty := 103) (x := .tmp 8) (b := w.heap.size + 1 + 1) (o := 3) (by kernel_rfl) (by kernel_rfl) Tryd.underlying103 rfl ((hw'.cell (p := ⟨w.heap.size + 1 + 1, 3, none⟩) (by simp)).trans c3)) ?_
  refine calm_load (some 10) 102 (.tmp 3) (w.heap.size) 0 _ (by kernel_rfl) (by kernel_rfl) (by kernel_rfl) (by kernel_rfl) (by kernel_rfl) (fun w' hw' => range_kept r1 (by omega) w' hw') Tryd.underlying102 rfl infoPlace ?_
  refine calm_call (some 11) 90 #[Plc x y] ⟨_, rfl⟩ (by kernel_rfl) (by kernel_rfl) (by kernel_rfl) (fun _ => by kernel_rfl) (fun w' hw' => (west_any x y (by omega) (by omega) w').mono fun e w2 h => ⟨_, h.1, rfl, below_step hw' h.2 (by have := hw'.size; omega)⟩) ?_
  rintro _ rfl
  refine calm_end fun w' hw' => ?_
  have t3 := there_below t2 hw' (by omega)
  refine plan_do none undef (w'.setCells (w.heap.size + 1) 0 [Value.int .i64 (x - 1), Value.int .i64 y]) (by kernel_rfl) (by kernel_rfl) (by kernel_rfl) (.inr ⟨store_op (x := .tmp 4) (y := .tmp 11) (cs := #[Value.int .i64 (x - 1), .int .i64 y]) (by kernel_rfl) (by kernel_rfl) (by kernel_rfl) t3 infoPlace (by kernel_rfl), rfl⟩) trivial (plan_end (Clean.normal ?_))
  have hr := World.rangeAt_setCells_same w' (w.heap.size + 1) 0 [Value.int .i64 (x - 1), .int .i64 y] t3
  have hb := below_setCells (B := w.heap.size) (a := w) (w.heap.size + 1) (by omega) [Value.int .i64 (x - 1), .int .i64 y] 0 w' (hB.trans (hw'.mono (by omega)))
  obtain ⟨X, hX⟩ : ∃ X, w'.setCells (w.heap.size + 1) 0 [Value.int .i64 (x - 1), .int .i64 y] = X := ⟨_, rfl⟩
  rw [hX] at hr hb ⊢
  clear hX t3 c3 r1 r2 r3 t2
  simp only [Act.put, List.setIfInBounds_toArray, List.set_cons_zero, List.set_cons_succ]
  go_wp2
  exact bodyPost_ret (results_cell_mid rfl _ _ _ 0 _ _ rfl hr Tryd.underlying102 rfl infoPlace) rfl ⟨rfl, hb⟩

theorem of_any (k : Nat) (hk : k < 64) (s : Int) (hs : sideB s = true) (w : World) :
    Calls Tryd.prog 74 #[Value.int .i64 s, Plc ((k % 8 : Nat) : Int) ((k / 8 : Nat) : Int)] w fun e w' => e = .returned (Plc (nx k s) (ny k s)) ∧ Below w.heap.size w w' := by
  rcases side_cases hs with rfl | rfl | rfl | rfl
  · simpa [nx, ny, Int.sub_eq_add_neg] using of_0 ((k % 8 : Nat) : Int) ((k / 8 : Nat) : Int) (by omega) (by omega) (by omega) (by omega) w
  · simpa [nx, ny] using of_1 ((k % 8 : Nat) : Int) ((k / 8 : Nat) : Int) (by omega) (by omega) (by omega) (by omega) w
  · simpa [nx, ny] using of_2 ((k % 8 : Nat) : Int) ((k / 8 : Nat) : Int) (by omega) (by omega) (by omega) (by omega) w
  · simpa [nx, ny, Int.sub_eq_add_neg] using of_3 ((k % 8 : Nat) : Int) ((k / 8 : Nat) : Int) (by omega) (by omega) (by omega) (by omega) w

theorem placeOf_nat (k : Nat) (hk : k < 64) (w : World) :
    Calls Tryd.prog 75 #[Value.int .i64 k] w fun e w' => e = .returned (Plc ((k % 8 : Nat) : Int) ((k / 8 : Nat) : Int)) ∧ Below w.heap.size w w' := by
  have h := placeOf_int k (by omega) (by omega) w
  have ht := (tdm k).1 (by omega)
  rw [ht.1, ht.2] at h
  simpa using h

/-- A place, boxed. -/
theorem plc_box (x y : Int) (t : TypeId) (w : World) : ∃ W, w.alloc (.cells #[Value.int .i64 x, .int .i64 y] t) = W ∧ W.heap.size = w.heap.size + 1 ∧ W.cell? ⟨w.heap.size, 0, none⟩ = some (.int .i64 x) ∧ W.cell? ⟨w.heap.size, 1, none⟩ = some (.int .i64 y) ∧ Below w.heap.size w W :=
  ⟨_, rfl, by simp, cell_of_row _ _ 0 _ _ _ (heap_alloc_last w _), cell_of_row _ _ 1 _ _ _ (heap_alloc_last w _), (Below.refl _ _).alloc (Nat.le_refl _) _⟩

/-- A number and a bool, as a result. -/
def IB (a : Int) (b : Bool) : Value := .tuple #[Value.int .i64 a, .bool b]

set_option maxRecDepth 100000 in
set_option maxHeartbeats 1000000 in
theorem beside_any (G : Gd) (k : Nat) (hk : k < 64) (s : Int) (hs : sideB s = true) (hv : validB G = true) (p : Nat) (w : World) (hp : GrdAt w p 0 G) (hpl : p < w.heap.size) (hG : GdOk G) :
    Calls Tryd.prog 47 #[.pointer (some ⟨p, 0, none⟩), .int .i64 k, .int .i64 s] w fun e w' => e = .returned (IB (if nbB G k s = true then nb k s else 0) (nbB G k s)) ∧ Below w.heap.size w w' := by
  have Hp := Lib.hid hp
  have HG := Lib.hid hG
  have Hv := Lib.hid hv
  clear hp hG hv
  obtain ⟨r, hr⟩ : ∃ r, IB (if nbB G k s = true then nb k s else 0) (nbB G k s) = r := ⟨_, rfl⟩
  rw [hr]
  have HR := Lib.hid hr
  clear hr
  go_enter Tryd.func47, Tryd.ntmps47
  go_upto_region 2 with (first | (go_at_call 75; refine (placeOf_nat k hk _).mono ?_; rintro e w1 ⟨rfl, hb1⟩) | (go_at_call 74; refine (of_any k hk s hs _).mono ?_; rintro e w2 ⟨rfl, hb2⟩; unfold Plc))
  have k2 := hb1.trans (hb2.mono hb1.size)
  have z2 := k2.size
  obtain ⟨V, hV, zV, x0, x1, bV⟩ := plc_box (nx k s) (ny k s) 102 w2
  rw [hV]
  have P2 := Lib.hid ((Hp.out.below k2 hpl).below bV (by omega))
  have B2 := Lib.hid (k2.trans (bV.mono (by omega)))
  clear hV bV hb1 hb2 k2
  cases hn : nbB G k s
  · have Hn := Lib.hid (show holdB G (nx k s) (ny k s) = false from hn)
    have R := Lib.hid (show IB 0 false = r by rw [← HR.out, hn]; rfl)
    clear hn
    go_wp2_with (go_at_call 76; have hc := (holds_any G (nx k s) (ny k s) p V P2.out (by omega) HG.out); rw [Hn.out] at hc; refine hc.mono ?_; clear hc; rintro e w3 ⟨rfl, hb3⟩)
    go_ret2
    exact ⟨congrArg Ending.returned R.out, B2.out.trans (hb3.mono (by omega))⟩
  · have Hn := Lib.hid (show holdB G (nx k s) (ny k s) = true from hn)
    obtain ⟨_, _, n1, n2, n3, n4⟩ := nb_range Hv.out hn
    have R := Lib.hid (show IB (nb k s) true = r by rw [← HR.out, hn]; rfl)
    clear hn
    go_upto_region 4 with (go_at_call 76; have hc := (holds_any G (nx k s) (ny k s) p V P2.out (by omega) HG.out); rw [Hn.out] at hc; refine hc.mono ?_; clear hc; rintro e w3 ⟨rfl, hb3⟩)
    have y0 := (hb3.cell (p := ⟨w2.heap.size, 0, none⟩) (by simp; omega)).trans x0
    have y1 := (hb3.cell (p := ⟨w2.heap.size, 1, none⟩) (by simp; omega)).trans x1
    have z3 := hb3.size
    have B3 := Lib.hid (B2.out.trans (hb3.mono (by omega)))
    clear x0 x1 hb3
    go_wp2_with (go_at_call 77; refine (number_any (nx k s) (ny k s) n1 (by omega) n3 (by omega) _).mono ?_; rintro e w4 ⟨rfl, hb4⟩)
    go_ret2
    exact ⟨congrArg Ending.returned R.out, B3.out.trans (hb4.mono (by omega))⟩
end
end Go.Proofs.YtjhaonfdapldcaaDoor
