/- The drawdown at a site, and the difference of a reading: the program's and the model's. Condition: what comes in is valid. -/
import Derived.Test.YtbiknpfcemfoeaaDoorMisV
import Derived.Test.YtbiknpfcemfoeaaDoorSt
import Derived.Test.YtbiknpfcemfoeaaDoorRs
namespace Go.Proofs.YtbiknpfcemfoeaaDoor
open Go Go.RowKit Ieee
set_option linter.unusedSimpArgs false
set_option linter.unusedVariables false
attribute [local go_sem] run_store_f32
def dfO (l : Int) (d : Option Nat) : Option Nat := fop .f32 .sub (lvV l) d
theorem lvV_ex (l : Int) : ∃ r, num .f32 r = lvV l := fop_any _ rfl _ _
theorem dfO_ex (l : Int) {d : Option Nat} (hd : ∃ r, num .f32 r = d) : ∃ r, num .f32 r = dfO l d := by
  obtain ⟨a, ha⟩ := lvV_ex l
  obtain ⟨b, hb⟩ := hd
  rw [dfO, ← ha, ← hb]
  exact fop_ex .f32 .sub rfl _ _ (num_ex _ _) (num_ex _ _)
theorem range_head {w : World} {b : Nat} {a c : List Value} (h : w.rangeAt b 0 (a ++ c)) : w.rangeAt b 0 a := fun j v hj => h j v (by
  have hl := (List.getElem?_eq_some_iff.1 hj).1
  rw [List.getElem?_append_left hl]; exact hj)

set_option maxRecDepth 100000 in
set_option maxHeartbeats 2000000 in
theorem siteDrawdown_any (X Y : Int) (R : Nat) (x y : Int) (T S : Nat) (t : Int) (hT : 981467136 ≤ T ∧ T ≤ 1233125376) (hS : 897581056 ≤ S ∧ S ≤ 1065353216) (hdx : -100 ≤ X ∧ X ≤ 100) (hdy : -100 ≤ Y ∧ Y ≤ 100) (hx : -100 ≤ x ∧ x ≤ 100) (hy : -100 ≤ y ∧ y ≤ 100) (ht : 1 ≤ t ∧ t ≤ 100000) (w : World) : Calls Tryd.prog 60 #[.agg (Ste X Y R x y), .agg (Aq T S), .int .i64 t] w (GvB (drwV T S R (x - X) (y - Y) t) w) := by
  go_enter Tryd.func60, Tryd.ntmps60
  go_upto_region 1 with (fail)
  obtain ⟨z, b0, b1, B0⟩ := laid2 w (.cells (Ste X Y R x y) 47) (.cells (Aq T S) 43)
  obtain ⟨W, hW⟩ : ∃ W, (w.alloc (.cells (Ste X Y R x y) 47) |>.alloc (.cells (Aq T S) 43)) = W := ⟨_, rfl⟩
  rw [hW] at z b0 b1 B0 ⊢
  have R0 := Lib.hid (rangeAt_row b0)
  have R0w := Lib.hid (show W.rangeAt w.heap.size 0 (We X Y R).toList from range_head (c := [.int .i8 x, .int .i8 y]) (rangeAt_row b0))
  have R1 := Lib.hid (rangeAt_row b1)
  clear hW b0 b1
  refine wp_region_calm (ops' := regOf Tryd.f60 1) [0, 1, 2, 3, 4, 5, 6, 7, 8] [] .fin (Below (w.heap.size + 1 + 1) W) [(0, One (.pointer (some ⟨w.heap.size, 0, none⟩))), (1, One (.agg (We X Y R))), (2, One (.agg (Sk X Y R))), (3, One (.agg (Aq T S))), (4, One (.agg (Ste X Y R x y))), (5, One (.agg (Pc x y))), (6, One (.int .i64 t)), (7, Numv .f32 (drwV T S R (x - X) (y - Y) t)), (8, Numv .f32 (drwV T S R (x - X) (y - Y) t))] (by kernel_rfl) (by kernel_rfl) (by kernel_rfl) (by kernel_rfl) (by kernel_rfl) (by kernel_rfl) (by kernel_rfl) (by kernel_rfl) rfl ((Below.refl _ _).drew) ?_
  refine calm_pure (some 7) (by kernel_rfl) (by kernel_rfl) (by kernel_rfl) (fun _ => (by kernel_rfl)) ?_
  refine calm_load (some 8) 45 (.tmp 7) (w.heap.size) 0 _ (by kernel_rfl) (by kernel_rfl) (by kernel_rfl) (by kernel_rfl) (by kernel_rfl) (fun w' hw' => range_kept (n := w.heap.size + 1 + 1) R0w.out (by omega) _ hw') Tryd.underlying45 rfl (by kernel_rfl) ?_
  refine calm_call (some 9) 83 #[.agg (We X Y R)] ⟨_, rfl⟩ (by kernel_rfl) (by kernel_rfl) (by kernel_rfl) (fun _ => (by kernel_rfl)) (fun w' hw' => (sunk_any X Y R (by omega) (by omega) w').mono fun e w2 h => ⟨_, h.1, rfl, below_step hw' h.2 (by have := hw'.size; omega)⟩) ?_
  rintro _ rfl
  refine calm_load (some 10) 43 (.tmp 4) ((w.heap.size + 1)) 0 _ (by kernel_rfl) (by kernel_rfl) (by kernel_rfl) (by kernel_rfl) (by kernel_rfl) (fun w' hw' => range_kept (n := w.heap.size + 1 + 1) R1.out (by omega) _ hw') Tryd.underlying43 rfl (by kernel_rfl) ?_
  refine calm_load (some 11) 47 (.tmp 3) (w.heap.size) 0 _ (by kernel_rfl) (by kernel_rfl) (by kernel_rfl) (by kernel_rfl) (by kernel_rfl) (fun w' hw' => range_kept (n := w.heap.size + 1 + 1) R0.out (by omega) _ hw') Tryd.underlying47 rfl (by kernel_rfl) ?_
  refine calm_call (some 12) 85 #[.agg (Ste X Y R x y)] ⟨_, rfl⟩ (by kernel_rfl) (by kernel_rfl) (by kernel_rfl) (fun _ => (by kernel_rfl)) (fun w' hw' => (sitePlace_any X Y R x y (by omega) (by omega) (by omega) (by omega) w').mono fun e w2 h => ⟨_, h.1, rfl, below_step hw' h.2 (by have := hw'.size; omega)⟩) ?_
  rintro _ rfl
  refine calm_pure (some 13) (by kernel_rfl) (by kernel_rfl) (by kernel_rfl) (fun _ => (by kernel_rfl)) ?_
  refine calm_call (some 14) 84 #[.agg (Sk X Y R), .agg (Aq T S), .agg (Pc x y), .int .i64 t] (numv_ne (drwV_ex T S R (x - X) (y - Y) t)) (by kernel_rfl) (by kernel_rfl) (by kernel_rfl) (fun _ => (by kernel_rfl)) (fun w' hw' => (drawdownAt_any T S X Y R x y t hT hS hdx hdy hx hy ht w').mono fun e w2 ⟨r, he, hr, hq⟩ => ⟨_, he, ⟨r, rfl, hr⟩, below_step hw' hq (by have := hw'.size; omega)⟩) ?_
  rintro _ ⟨r14, rfl, hr14⟩
  refine calm_pureV (some 6) (.float .f32 r14) ⟨_, rfl, hr14⟩ (by kernel_rfl) (by kernel_rfl) (by kernel_rfl) (fun _ => (by kernel_rfl)) ?_
  rintro _ ⟨r6, rfl, hr6⟩
  refine calm_end fun w1 hw1 => plan_end (Clean.normal ?_)
  simp only [Act.put, List.setIfInBounds_toArray, List.set_cons_zero, List.set_cons_succ]
  go_wp2
  go_ret
  exact ⟨_, rfl, hr6, B0.trans (hw1.mono (by omega))⟩

set_option maxRecDepth 100000 in
set_option maxHeartbeats 2000000 in
theorem l04Drawdown_any (X Y : Int) (R : Nat) (x y : Int) (T S : Nat) (t : Int) (hT : 981467136 ≤ T ∧ T ≤ 1233125376) (hS : 897581056 ≤ S ∧ S ≤ 1065353216) (hdx : -100 ≤ X ∧ X ≤ 100) (hdy : -100 ≤ Y ∧ Y ≤ 100) (hx : -100 ≤ x ∧ x ≤ 100) (hy : -100 ≤ y ∧ y ≤ 100) (ht : 1 ≤ t ∧ t ≤ 100000) (w : World) : Calls Tryd.prog 39 #[.agg (Aq T S), .agg (Ste X Y R x y), .int .i64 t] w (GvB (drwV T S R (x - X) (y - Y) t) w) := by
  have T1 := fun V => l03Drawdown_any T S X Y R x y t hT hS hdx hdy hx hy ht V
  have B0 : Below w.heap.size w ((w.alloc (.cells (Aq T S) 43)).alloc (.cells (Ste X Y R x y) 47)) := ((Below.refl _ _).alloc (Nat.le_refl _) _).alloc (by simp) _
  have hx1 : -128 ≤ x ∧ x ≤ 127 := by omega
  have hy1 : -128 ≤ y ∧ y ≤ 127 := by omega
  simp only [Aq, Ste, We] at T1 B0 ⊢
  go_enter Tryd.func39, Tryd.ntmps39
  go_wp2_with (go_at_call 57; refine (T1 _).mono ?_; rintro e V1 ⟨r, rfl, hr, hq1⟩; have HR := Lib.hid hr; have Q1 := Lib.hid (B0.trans (hq1.mono B0.size)); clear hq1 hr B0)
  go_ret
  exact ⟨_, rfl, HR.out, Q1.out⟩

set_option maxRecDepth 100000 in
set_option maxHeartbeats 2000000 in
theorem siteDifference_any (X Y : Int) (R : Nat) (x y : Int) (T S : Nat) (t l : Int) (hT : 981467136 ≤ T ∧ T ≤ 1233125376) (hS : 897581056 ≤ S ∧ S ≤ 1065353216) (hdx : -100 ≤ X ∧ X ≤ 100) (hdy : -100 ≤ Y ∧ Y ≤ 100) (hx : -100 ≤ x ∧ x ≤ 100) (hy : -100 ≤ y ∧ y ≤ 100) (ht : 1 ≤ t ∧ t ≤ 100000) (w : World) : Calls Tryd.prog 94 #[.agg (Ste X Y R x y), .agg (Aq T S), .agg (Rd t l)] w (GvB (dfO l (drwV T S R (x - X) (y - Y) t)) w) := by
  go_enter Tryd.func94, Tryd.ntmps94
  go_upto_region 1 with (fail)
  obtain ⟨z, b0, b1, b2, B0⟩ := laid3 w (.cells (Ste X Y R x y) 47) (.cells (Aq T S) 43) (.cells (Rd t l) 65)
  obtain ⟨W, hW⟩ : ∃ W, (w.alloc (.cells (Ste X Y R x y) 47) |>.alloc (.cells (Aq T S) 43) |>.alloc (.cells (Rd t l) 65)) = W := ⟨_, rfl⟩
  rw [hW] at z b0 b1 b2 B0 ⊢
  have R0 := Lib.hid (rangeAt_row b0)
  have R1 := Lib.hid (rangeAt_row b1)
  have R2x := Lib.hid (rangeAt_row b2)
  have C0 := Lib.hid (show W.cell? ⟨w.heap.size + 1 + 1, 0, none⟩ = some (.int .i64 t) from cell_of_row _ _ 0 _ _ _ b2)
  clear hW b0 b1 b2
  have ex1 := Lib.hid (lvV_ex l)
  have ex2 := Lib.hid (drwV_ex T S R (x - X) (y - Y) t)
  refine wp_region_calm (ops' := regOf Tryd.f94 1) [0, 1, 2, 3, 4, 5, 6, 7, 8] [] .fin (Below (w.heap.size + 1 + 1 + 1) W) [(0, One (.agg (Rd t l))), (1, Numv .f32 (lvV l)), (2, One (.agg (Ste X Y R x y))), (3, One (.agg (Aq T S))), (4, One (.pointer (some ⟨w.heap.size + 1 + 1, 0, none⟩))), (5, One (.int .i64 t)), (6, Numv .f32 (drwV T S R (x - X) (y - Y) t)), (7, Numv .f32 (dfO l (drwV T S R (x - X) (y - Y) t))), (8, Numv .f32 (dfO l (drwV T S R (x - X) (y - Y) t)))] (by kernel_rfl) (by kernel_rfl) (by kernel_rfl) (by kernel_rfl) (by kernel_rfl) (by kernel_rfl) (by kernel_rfl) (by kernel_rfl) rfl ((Below.refl _ _).drew) ?_
  refine calm_load (some 7) 65 (.tmp 5) ((w.heap.size + 1 + 1)) 0 _ (by kernel_rfl) (by kernel_rfl) (by kernel_rfl) (by kernel_rfl) (by kernel_rfl) (fun w' hw' => range_kept (n := w.heap.size + 1 + 1 + 1) R2x.out (by omega) _ hw') Tryd.underlying65 rfl (by kernel_rfl) ?_
  refine calm_call (some 8) 87 #[.agg (Rd t l)] (numv_ne ex1.out) (by kernel_rfl) (by kernel_rfl) (by kernel_rfl) (fun _ => (by kernel_rfl)) (fun w' hw' => (implLevel_any t l w').mono fun e w2 ⟨r, he, hr, hq⟩ => ⟨_, he, ⟨r, rfl, hr⟩, below_step hw' hq (by have := hw'.size; omega)⟩) ?_
  rintro _ ⟨r8, rfl, hr8⟩
  refine calm_load (some 9) 47 (.tmp 3) (w.heap.size) 0 _ (by kernel_rfl) (by kernel_rfl) (by kernel_rfl) (by kernel_rfl) (by kernel_rfl) (fun w' hw' => range_kept (n := w.heap.size + 1 + 1 + 1) R0.out (by omega) _ hw') Tryd.underlying47 rfl (by kernel_rfl) ?_
  refine calm_load (some 10) 43 (.tmp 4) ((w.heap.size + 1)) 0 _ (by kernel_rfl) (by kernel_rfl) (by kernel_rfl) (by kernel_rfl) (by kernel_rfl) (fun w' hw' => range_kept (n := w.heap.size + 1 + 1 + 1) R1.out (by omega) _ hw') Tryd.underlying43 rfl (by kernel_rfl) ?_
  refine calm_pure (some 11) (by kernel_rfl) (by kernel_rfl) (by kernel_rfl) (fun _ => (by kernel_rfl)) ?_
  refine calm_read (some 12) (by kernel_rfl) (by kernel_rfl) (by kernel_rfl) (fun w' hw' => load_cell (ty := 2) (x := .tmp 11) (b := w.heap.size + 1 + 1) (o := 0) (by kernel_rfl) (by kernel_rfl) Tryd.underlying2 rfl ((hw'.cell (p := ⟨w.heap.size + 1 + 1, 0, none⟩) (by show w.heap.size + 1 + 1 < _; omega)).trans C0.out)) ?_
  refine calm_call (some 13) 60 #[.agg (Ste X Y R x y), .agg (Aq T S), .int .i64 t] (numv_ne ex2.out) (by kernel_rfl) (by kernel_rfl) (by kernel_rfl) (fun _ => (by kernel_rfl)) (fun w' hw' => (siteDrawdown_any X Y R x y T S t hT hS hdx hdy hx hy ht w').mono fun e w2 ⟨r, he, hr, hq⟩ => ⟨_, he, ⟨r, rfl, hr⟩, below_step hw' hq (by have := hw'.size; omega)⟩) ?_
  rintro _ ⟨r13, rfl, hr13⟩
  refine calm_float (some 14) .f32 .sub 24 24 (.tmp 8) (.tmp 13) r8 r13 (by kernel_rfl) (by kernel_rfl) (by kernel_rfl) (by kernel_rfl) rfl (by kernel_rfl) (by kernel_rfl) (fun _ n h => belowN h n) (by rw [hr8, hr13]; rfl) ?_
  intro r14 hr14
  refine calm_pureV (some 6) (.float .f32 r14) ⟨_, rfl, hr14⟩ (by kernel_rfl) (by kernel_rfl) (by kernel_rfl) (fun _ => (by kernel_rfl)) ?_
  rintro _ ⟨r6, rfl, hr6⟩
  refine calm_end fun w1 hw1 => plan_end (Clean.normal ?_)
  simp only [Act.put, List.setIfInBounds_toArray, List.set_cons_zero, List.set_cons_succ]
  go_wp2
  go_ret
  exact ⟨_, rfl, hr6, B0.trans (hw1.mono (by omega))⟩

set_option maxRecDepth 100000 in
set_option maxHeartbeats 2000000 in
theorem l04Difference_any (X Y : Int) (R : Nat) (x y : Int) (T S : Nat) (t l : Int) (hT : 981467136 ≤ T ∧ T ≤ 1233125376) (hS : 897581056 ≤ S ∧ S ≤ 1065353216) (hdx : -100 ≤ X ∧ X ≤ 100) (hdy : -100 ≤ Y ∧ Y ≤ 100) (hx : -100 ≤ x ∧ x ≤ 100) (hy : -100 ≤ y ∧ y ≤ 100) (ht : 1 ≤ t ∧ t ≤ 100000) (w : World) : Calls Tryd.prog 65 #[.agg (Aq T S), .agg (Ste X Y R x y), .agg (Rd t l)] w (GvB (dfO l (drwV T S R (x - X) (y - Y) t)) w) := by
  go_enter Tryd.func65, Tryd.ntmps65
  go_upto_region 1 with (fail)
  obtain ⟨z, b0, b1, b2, B0⟩ := laid3 w (.cells (Aq T S) 43) (.cells (Ste X Y R x y) 47) (.cells (Rd t l) 65)
  obtain ⟨W, hW⟩ : ∃ W, (w.alloc (.cells (Aq T S) 43) |>.alloc (.cells (Ste X Y R x y) 47) |>.alloc (.cells (Rd t l) 65)) = W := ⟨_, rfl⟩
  rw [hW] at z b0 b1 b2 B0 ⊢
  have R0 := Lib.hid (rangeAt_row b0)
  have R1 := Lib.hid (rangeAt_row b1)
  have R2x := Lib.hid (rangeAt_row b2)
  have C0 := Lib.hid (show W.cell? ⟨w.heap.size + 1 + 1, 0, none⟩ = some (.int .i64 t) from cell_of_row _ _ 0 _ _ _ b2)
  clear hW b0 b1 b2
  have ex1 := Lib.hid (lvV_ex l)
  have ex2 := Lib.hid (drwV_ex T S R (x - X) (y - Y) t)
  refine wp_region_calm (ops' := regOf Tryd.f65 1) [0, 1, 2, 3, 4, 5, 6, 7, 8] [] .fin (Below (w.heap.size + 1 + 1 + 1) W) [(0, One (.agg (Rd t l))), (1, Numv .f32 (lvV l)), (2, One (.agg (Aq T S))), (3, One (.agg (Ste X Y R x y))), (4, One (.pointer (some ⟨w.heap.size + 1 + 1, 0, none⟩))), (5, One (.int .i64 t)), (6, Numv .f32 (drwV T S R (x - X) (y - Y) t)), (7, Numv .f32 (dfO l (drwV T S R (x - X) (y - Y) t))), (8, Numv .f32 (dfO l (drwV T S R (x - X) (y - Y) t)))] (by kernel_rfl) (by kernel_rfl) (by kernel_rfl) (by kernel_rfl) (by kernel_rfl) (by kernel_rfl) (by kernel_rfl) (by kernel_rfl) rfl ((Below.refl _ _).drew) ?_
  refine calm_load (some 7) 65 (.tmp 5) ((w.heap.size + 1 + 1)) 0 _ (by kernel_rfl) (by kernel_rfl) (by kernel_rfl) (by kernel_rfl) (by kernel_rfl) (fun w' hw' => range_kept (n := w.heap.size + 1 + 1 + 1) R2x.out (by omega) _ hw') Tryd.underlying65 rfl (by kernel_rfl) ?_
  refine calm_call (some 8) 29 #[.agg (Rd t l)] (numv_ne ex1.out) (by kernel_rfl) (by kernel_rfl) (by kernel_rfl) (fun _ => (by kernel_rfl)) (fun w' hw' => (l04Level_any t l w').mono fun e w2 ⟨r, he, hr, hq⟩ => ⟨_, he, ⟨r, rfl, hr⟩, below_step hw' hq (by have := hw'.size; omega)⟩) ?_
  rintro _ ⟨r8, rfl, hr8⟩
  refine calm_load (some 9) 43 (.tmp 3) (w.heap.size) 0 _ (by kernel_rfl) (by kernel_rfl) (by kernel_rfl) (by kernel_rfl) (by kernel_rfl) (fun w' hw' => range_kept (n := w.heap.size + 1 + 1 + 1) R0.out (by omega) _ hw') Tryd.underlying43 rfl (by kernel_rfl) ?_
  refine calm_load (some 10) 47 (.tmp 4) ((w.heap.size + 1)) 0 _ (by kernel_rfl) (by kernel_rfl) (by kernel_rfl) (by kernel_rfl) (by kernel_rfl) (fun w' hw' => range_kept (n := w.heap.size + 1 + 1 + 1) R1.out (by omega) _ hw') Tryd.underlying47 rfl (by kernel_rfl) ?_
  refine calm_pure (some 11) (by kernel_rfl) (by kernel_rfl) (by kernel_rfl) (fun _ => (by kernel_rfl)) ?_
  refine calm_read (some 12) (by kernel_rfl) (by kernel_rfl) (by kernel_rfl) (fun w' hw' => load_cell (ty := 2) (x := .tmp 11) (b := w.heap.size + 1 + 1) (o := 0) (by kernel_rfl) (by kernel_rfl) Tryd.underlying2 rfl ((hw'.cell (p := ⟨w.heap.size + 1 + 1, 0, none⟩) (by show w.heap.size + 1 + 1 < _; omega)).trans C0.out)) ?_
  refine calm_call (some 13) 39 #[.agg (Aq T S), .agg (Ste X Y R x y), .int .i64 t] (numv_ne ex2.out) (by kernel_rfl) (by kernel_rfl) (by kernel_rfl) (fun _ => (by kernel_rfl)) (fun w' hw' => (l04Drawdown_any X Y R x y T S t hT hS hdx hdy hx hy ht w').mono fun e w2 ⟨r, he, hr, hq⟩ => ⟨_, he, ⟨r, rfl, hr⟩, below_step hw' hq (by have := hw'.size; omega)⟩) ?_
  rintro _ ⟨r13, rfl, hr13⟩
  refine calm_float (some 14) .f32 .sub 24 24 (.tmp 8) (.tmp 13) r8 r13 (by kernel_rfl) (by kernel_rfl) (by kernel_rfl) (by kernel_rfl) rfl (by kernel_rfl) (by kernel_rfl) (fun _ n h => belowN h n) (by rw [hr8, hr13]; rfl) ?_
  intro r14 hr14
  refine calm_pureV (some 6) (.float .f32 r14) ⟨_, rfl, hr14⟩ (by kernel_rfl) (by kernel_rfl) (by kernel_rfl) (fun _ => (by kernel_rfl)) ?_
  rintro _ ⟨r6, rfl, hr6⟩
  refine calm_end fun w1 hw1 => plan_end (Clean.normal ?_)
  simp only [Act.put, List.setIfInBounds_toArray, List.set_cons_zero, List.set_cons_succ]
  go_wp2
  go_ret
  exact ⟨_, rfl, hr6, B0.trans (hw1.mono (by omega))⟩
end Go.Proofs.YtbiknpfcemfoeaaDoor
