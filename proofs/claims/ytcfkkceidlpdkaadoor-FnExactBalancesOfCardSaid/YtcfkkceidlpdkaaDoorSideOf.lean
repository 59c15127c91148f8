/- The program's cellSide.of and beside. No condition. -/
import Derived.Test.YtcfkkceidlpdkaaDoorBeside
import Derived.Test.YtcfkkceidlpdkaaDoorCalmF
import Derived.Laws.EntriesVeiled
namespace Go.Proofs.YtcfkkceidlpdkaaDoor
open Go.RowKit
set_option linter.unusedSimpArgs false

/-- Three blocks, one behind the other. -/
theorem three_boxes (A B C : Array Value) (t u v : TypeId) (w : World) : ∃ W, ((w.alloc (.cells A t)).alloc (.cells B u)).alloc (.cells C v) = W ∧ W.heap.size = w.heap.size + 1 + 1 + 1 ∧ W.rangeAt w.heap.size 0 A.toList ∧ W.rangeAt (w.heap.size + 1) 0 B.toList ∧ W.there (w.heap.size + 1) 0 B.size ∧ W.rangeAt (w.heap.size + 1 + 1) 0 C.toList ∧ Below w.heap.size w W := by
  obtain ⟨W1, h1⟩ : ∃ W1, w.alloc (.cells A t) = W1 := ⟨_, rfl⟩
  obtain ⟨W2, h2⟩ : ∃ W2, W1.alloc (.cells B u) = W2 := ⟨_, rfl⟩
  have z1 : W1.heap.size = w.heap.size + 1 := by rw [← h1]; simp
  have z2 : W2.heap.size = w.heap.size + 1 + 1 := by rw [← h2]; simp [z1]
  have b1 : Below w.heap.size w W1 := by rw [← h1]; exact (Below.refl _ _).alloc (Nat.le_refl _) _
  have b2 : Below W1.heap.size W1 W2 := by rw [← h2]; exact (Below.refl _ _).alloc (Nat.le_refl _) _
  have b3 : Below W2.heap.size W2 (W2.alloc (.cells C v)) := (Below.refl _ _).alloc (Nat.le_refl _) _
  have r1 : W1.rangeAt w.heap.size 0 A.toList := by rw [← h1]; exact rangeAt_row (heap_alloc_last w _)
  have r2 : W2.rangeAt (w.heap.size + 1) 0 B.toList := by rw [← h2, ← z1]; exact rangeAt_row (heap_alloc_last W1 _)
  have t2 : W2.there (w.heap.size + 1) 0 B.size := by rw [← h2, ← z1]; exact there_row (heap_alloc_last W1 _) rfl
  have r3 : (W2.alloc (.cells C v)).rangeAt (w.heap.size + 1 + 1) 0 C.toList := by rw [← z2]; exact rangeAt_row (heap_alloc_last W2 _)
  rw [h1, h2]
  refine ⟨_, rfl, by simp [z2], range_kept (n := W2.heap.size) (range_kept (n := W1.heap.size) r1 (by omega) _ b2) (by omega) _ b3, range_kept (n := W2.heap.size) r2 (by omega) _ b3, there_below t2 b3 (by omega), r3, (b1.trans (b2.mono (by omega))).trans (b3.mono (by omega))⟩

theorem infoPlace : (Tryd.prog.info? 94).map (·.size) = some 2 := by kernel_rfl

set_option maxRecDepth 100000 in
set_option maxHeartbeats 1000000 in
theorem of_0 (x y : Int) (_h1 : 0 ≤ x) (_h2 : x ≤ 7) (_h3 : 0 ≤ y) (_h4 : y ≤ 7) (w : World) :
    Calls Tryd.prog 82 #[Value.int .i64 0, Plc x y] w fun e w' => e = .returned (Plc x (y - 1)) ∧ Below w.heap.size w w' := by
  unfold Plc
  go_enter Tryd.func82, Tryd.ntmps82
  go_wp2
  obtain ⟨W, hW, hz, r1, r2, t2, r3, hB⟩ := three_boxes #[Value.int .i64 x, .int .i64 y] #[Value.int .i64 0, .int .i64 0] #[.func (.func 101) #[] #[], .func (.func 102) #[] #[], .func (.func 103) #[] #[], .func (.func 104) #[] #[]] 94 94 113 w
  refine wp_world (w' := W) hW ?_
  clear hW
  have c0 := r3 0 _ rfl
  rw [Nat.zero_add] at c0
  refine wp_region_calm (ops' := regOf Tryd.f82 2) [0, 1, 2, 3, 4] [5] (.run 5 .fin) (Below (w.heap.size + 1 + 1 + 1) W) [(0, One (.int .i64 0)), (1, One (.pointer (some ⟨w.heap.size + 1 + 1, 0, none⟩))), (2, One (.func (.func 101) #[] #[])), (3, One (.agg (#[Value.int .i64 x, .int .i64 y]))), (4, One (Plc x (y - 1)))] (by kernel_rfl) (by kernel_rfl) (by kernel_rfl) (by kernel_rfl) (by kernel_rfl) (by kernel_rfl) (by kernel_rfl) (by kernel_rfl) rfl ((Below.refl _ _).drew) ?_
  refine calm_pure (some 7) (by kernel_rfl) (by kernel_rfl) (by kernel_rfl) (fun _ => by kernel_rfl) ?_
  refine calm_pure (some 8) (by kernel_rfl) (by kernel_rfl) (by kernel_rfl) (fun _ => by kernel_rfl) ?_
  refine calm_read (some 9) (by kernel_rfl) (by kernel_rfl) (by kernel_rfl) (fun w' hw' => load_cell (ty := 95) (x := .tmp 8) (b := w.heap.size + 1 + 1) (o := 0) (by kernel_rfl) (by kernel_rfl) Tryd.underlying95 rfl ((hw'.cell (p := ⟨w.heap.size + 1 + 1, 0, none⟩) (by simp)).trans c0)) ?_
  refine calm_load (some 10) 94 (.tmp 3) (w.heap.size) 0 _ (by kernel_rfl) (by kernel_rfl) (by kernel_rfl) (by kernel_rfl) (by kernel_rfl) (fun w' hw' => range_kept r1 (by omega) w' hw') Tryd.underlying94 rfl infoPlace ?_
  refine calm_call (some 11) 101 #[Plc x y] ⟨_, rfl⟩ (by kernel_rfl) (by kernel_rfl) (by kernel_rfl) (fun _ => by kernel_rfl) (fun w' hw' => (north_any x y (by omega) (by omega) w').mono fun e w2 h => ⟨_, h.1, rfl, below_step hw' h.2 (by have := hw'.size; omega)⟩) ?_
  rintro _ rfl
  refine calm_end fun w' hw' => ?_
  have t3 := there_below t2 hw' (by omega)
  refine plan_do none undef (w'.setCells (w.heap.size + 1) 0 [Value.int .i64 x, Value.int .i64 (y - 1)]) (by kernel_rfl) (by kernel_rfl) (by kernel_rfl) (.inr ⟨store_op (x := .tmp 4) (y := .tmp 11) (cs := #[Value.int .i64 x, .int .i64 (y - 1)]) (by kernel_rfl) (by kernel_rfl) (by kernel_rfl) t3 infoPlace (by kernel_rfl), rfl⟩) trivial (plan_end (Clean.normal ?_))
  have hr := World.rangeAt_setCells_same w' (w.heap.size + 1) 0 [Value.int .i64 x, .int .i64 (y - 1)] t3
  have hb := below_setCells (B := w.heap.size) (a := w) (w.heap.size + 1) (by omega) [Value.int .i64 x, .int .i64 (y - 1)] 0 w' (hB.trans (hw'.mono (by omega)))
  obtain ⟨X, hX⟩ : ∃ X, w'.setCells (w.heap.size + 1) 0 [Value.int .i64 x, .int .i64 (y - 1)] = X := ⟨_, rfl⟩
  rw [hX] at hr hb ⊢
  clear hX t3 c0 r1 r2 r3 t2
  simp only [Act.put, List.setIfInBounds_toArray, List.set_cons_zero, List.set_cons_succ]
  go_wp2
  exact bodyPost_ret (results_cell_mid rfl _ _ _ 0 _ _ rfl hr Tryd.underlying94 rfl infoPlace) rfl ⟨rfl, hb⟩

set_option maxRecDepth 100000 in
set_option maxHeartbeats 1000000 in
theorem of_1 (x y : Int) (_h1 : 0 ≤ x) (_h2 : x ≤ 7) (_h3 : 0 ≤ y) (_h4 : y ≤ 7) (w : World) :
    Calls Tryd.prog 82 #[Value.int .i64 1, Plc x y] w fun e w' => e = .returned (Plc (x + 1) y) ∧ Below w.heap.size w w' := by
  unfold Plc
  go_enter Tryd.func82, Tryd.ntmps82
  go_wp2
  obtain ⟨W, hW, hz, r1, r2, t2, r3, hB⟩ := three_boxes #[Value.int .i64 x, .int .i64 y] #[Value.int .i64 0, .int .i64 0] #[.func (.func 101) #[] #[], .func (.func 102) #[] #[], .func (.func 103) #[] #[], .func (.func 104) #[] #[]] 94 94 113 w
  refine wp_world (w' := W) hW ?_
  clear hW
  have c1 := r3 1 _ rfl
  rw [Nat.zero_add] at c1
  refine wp_region_calm (ops' := regOf Tryd.f82 2) [0, 1, 2, 3, 4] [5] (.run 5 .fin) (Below (w.heap.size + 1 + 1 + 1) W) [(0, One (.int .i64 1)), (1, One (.pointer (some ⟨w.heap.size + 1 + 1, 1, none⟩))), (2, One (.func (.func 102) #[] #[])), (3, One (.agg (#[Value.int .i64 x, .int .i64 y]))), (4, One (Plc (x + 1) y))] (by kernel_rfl) (by kernel_rfl) (by kernel_rfl) (by kernel_rfl) (by kernel_rfl) (by kernel_rfl) (by kernel_rfl) (by kernel_rfl) rfl ((Below.refl _ _).drew) ?_
  refine calm_pure (some 7) (by kernel_rfl) (by kernel_rfl) (by kernel_rfl) (fun _ => by kernel_rfl) ?_
  refine calm_pure (some 8) (by kernel_rfl) (by kernel_rfl) (by kernel_rfl) (fun _ => by kernel_rfl) ?_
  refine calm_read (some 9) (by kernel_rfl) (by kernel_rfl) (by kernel_rfl) (fun w' hw' => load_cell (ty := 95) (x := .tmp 8) (b := w.heap.size + 1 + 1) (o := 1) (by kernel_rfl) (by kernel_rfl) Tryd.underlying95 rfl ((hw'.cell (p := ⟨w.heap.size + 1 + 1, 1, none⟩) (by simp)).trans c1)) ?_
  refine calm_load (some 10) 94 (.tmp 3) (w.heap.size) 0 _ (by kernel_rfl) (by kernel_rfl) (by kernel_rfl) (by kernel_rfl) (by kernel_rfl) (fun w' hw' => range_kept r1 (by omega) w' hw') Tryd.underlying94 rfl infoPlace ?_
  refine calm_call (some 11) 102 #[Plc x y] ⟨_, rfl⟩ (by kernel_rfl) (by kernel_rfl) (by kernel_rfl) (fun _ => by kernel_rfl) (fun w' hw' => (east_any x y (by omega) (by omega) w').mono fun e w2 h => ⟨_, h.1, rfl, below_step hw' h.2 (by have := hw'.size; omega)⟩) ?_
  rintro _ rfl
  refine calm_end fun w' hw' => ?_
  have t3 := there_below t2 hw' (by omega)
  refine plan_do none undef (w'.setCells (w.heap.size + 1) 0 [Value.int .i64 (x + 1), Value.int .i64 y]) (by kernel_rfl) (by kernel_rfl) (by kernel_rfl) (.inr ⟨store_op (x := .tmp 4) (y := .tmp 11) (cs := #[Value.int .i64 (x + 1), .int .i64 y]) (by kernel_rfl) (by kernel_rfl) (by kernel_rfl) t3 infoPlace (by kernel_rfl), rfl⟩) trivial (plan_end (Clean.normal ?_))
  have hr := World.rangeAt_setCells_same w' (w.heap.size + 1) 0 [Value.int .i64 (x + 1), .int .i64 y] t3
  have hb := below_setCells (B := w.heap.size) (a := w) (w.heap.size + 1) (by omega) [Value.int .i64 (x + 1), .int .i64 y] 0 w' (hB.trans (hw'.mono (by omega)))
  obtain ⟨X, hX⟩ : ∃ X, w'.setCells (w.heap.size + 1) 0 [Value.int .i64 (x + 1), .int .i64 y] = X := ⟨_, rfl⟩
  rw [hX] at hr hb ⊢
  clear hX t3 c1 r1 r2 r3 t2
  simp only [Act.put, List.setIfInBounds_toArray, List.set_cons_zero, List.set_cons_succ]
  go_wp2
  exact bodyPost_ret (results_cell_mid rfl _ _ _ 0 _ _ rfl hr Tryd.underlying94 rfl infoPlace) rfl ⟨rfl, hb⟩

set_option maxRecDepth 100000 in
set_option maxHeartbeats 1000000 in
theorem of_2 (x y : Int) (_h1 : 0 ≤ x) (_h2 : x ≤ 7) (_h3 : 0 ≤ y) (_h4 : y ≤ 7) (w : World) :
    Calls Tryd.prog 82 #[Value.int .i64 2, Plc x y] w fun e w' => e = .returned (Plc x (y + 1)) ∧ Below w.heap.size w w' := by
  unfold Plc
  go_enter Tryd.func82, Tryd.ntmps82
  go_wp2
  obtain ⟨W, hW, hz, r1, r2, t2, r3, hB⟩ := three_boxes #[Value.int .i64 x, .int .i64 y] #[Value.int .i64 0, .int .i64 0] #[.func (.func 101) #[] #[], .func (.func 102) #[] #[], .func (.func 103) #[] #[], .func (.func 104) #[] #[]] 94 94 113 w
  refine wp_world (w' := W) hW ?_
  clear hW
  have c2 := r3 2 _ rfl
  rw [Nat.zero_add] at c2
  refine wp_region_calm (ops' := regOf Tryd.f82 2) [0, 1, 2, 3, 4] [5] (.run 5 .fin) (Below (w.heap.size + 1 + 1 + 1) W) [(0, One (.int .i64 2)), (1, One (.pointer (some ⟨w.heap.size + 1 + 1, 2, none⟩))), (2, One (.func (.func 103) #[] #[])), (3, One (.agg (#[Value.int .i64 x, .int .i64 y]))), (4, One (Plc x (y + 1)))] (by kernel_rfl) (by kernel_rfl) (by kernel_rfl) (by kernel_rfl) (by kernel_rfl) (by kernel_rfl) (by kernel_rfl) (by kernel_rfl) rfl ((Below.refl _ _).drew) ?_
  refine calm_pure (some 7) (by kernel_rfl) (by kernel_rfl) (by kernel_rfl) (fun _ => by kernel_rfl) ?_
  refine calm_pure (some 8) (by kernel_rfl) (by kernel_rfl) (by kernel_rfl) (fun _ => by kernel_rfl) ?_
  refine calm_read (some 9) (by kernel_rfl) (by kernel_rfl) (by kernel_rfl) (fun w' hw' => load_cell (ty := 95) (x := .tmp 8) (b := w.heap.size + 1 + 1) (o := 2) (by kernel_rfl) (by kernel_rfl) Tryd.underlying95 rfl ((hw'.cell (p := ⟨w.heap.size + 1 + 1, 2, none⟩) (by simp)).trans c2)) ?_
  refine calm_load (some 10) 94 (.tmp 3) (w.heap.size) 0 _ (by kernel_rfl) (by kernel_rfl) (by kernel_rfl) (by kernel_rfl) (by kernel_rfl) (fun w' hw' => range_kept r1 (by omega) w' hw') Tryd.underlying94 rfl infoPlace ?_
  refine calm_call (some 11) 103 #[Plc x y] ⟨_, rfl⟩ (by kernel_rfl) (by kernel_rfl) (by kernel_rfl) (fun _ => by kernel_rfl) (fun w' hw' => (south_any x y (by omega) (by omega) w').mono fun e w2 h => ⟨_, h.1, rfl, below_step hw' h.2 (by have := hw'.size; omega)⟩) ?_
  rintro _ rfl
  refine calm_end fun w' hw' => ?_
  have t3 := there_below t2 hw' (by omega)
  refine plan_do none undef (w'.setCells (w.heap.size + 1) 0 [Value.int .i64 x, Value.int .i64 (y + 1)]) (by kernel_rfl) (by kernel_rfl) (by kernel_rfl) (.inr ⟨store_op (x := .tmp 4) (y := .tmp 11) (cs := #[Value.int .i64 x, .int .i64 (y + 1)]) (by kernel_rfl) (by kernel_rfl) (by kernel_rfl) t3 infoPlace (by kernel_rfl), rfl⟩) trivial (plan_end (Clean.normal ?_))
  have hr := World.rangeAt_setCells_same w' (w.heap.size + 1) 0 [Value.int .i64 x, .int .i64 (y + 1)] t3
  have hb := below_setCells (B := w.heap.size) (a := w) (w.heap.size + 1) (by omega) [Value.int .i64 x, .int .i64 (y + 1)] 0 w' (hB.trans (hw'.mono (by omega)))
  obtain ⟨X, hX⟩ : ∃ X, w'.setCells (w.heap.size + 1) 0 [Value.int .i64 x, .int .i64 (y + 1)] = X := ⟨_, rfl⟩
  rw [hX] at hr hb ⊢
  clear hX t3 c2 r1 r2 r3 t2
  simp only [Act.put, List.setIfInBounds_toArray, List.set_cons_zero, List.set_cons_succ]
  go_wp2
  exact bodyPost_ret (results_cell_mid rfl _ _ _ 0 _ _ rfl hr Tryd.underlying94 rfl infoPlace) rfl ⟨rfl, hb⟩

set_option maxRecDepth 100000 in
set_option maxHeartbeats 1000000 in
theorem of_3 (x y : Int) (_h1 : 0 ≤ x) (_h2 : x ≤ 7) (_h3 : 0 ≤ y) (_h4 : y ≤ 7) (w : World) :
    Calls Tryd.prog 82 #[Value.int .i64 3, Plc x y] w fun e w' => e = .returned (Plc (x - 1) y) ∧ Below w.heap.size w w' := by
  unfold Plc
  go_enter Tryd.func82, Tryd.ntmps82
  go_wp2
  obtain ⟨W, hW, hz, r1, r2, t2, r3, hB⟩ := three_boxes #[Value.int .i64 x, .int .i64 y] #[Value.int .i64 0, .int .i64 0] #[.func (.func 101) #[] #[], .func (.func 102) #[] #[], .func (.func 103) #[] #[], .func (.func 104) #[] #[]] 94 94 113 w
  refine wp_world (w' := W) hW ?_
  clear hW
  have c3 := r3 3 _ rfl
  rw [Nat.zero_add] at c3
  refine wp_region_calm (ops' := regOf Tryd.f82 2) [0, 1, 2, 3, 4] [5] (.run 5 .fin) (Below (w.heap.size + 1 + 1 + 1) W) [(0, One (.int .i64 3)), (1, One (.pointer (some ⟨w.heap.size + 1 + 1, 3, none⟩))), (2, One (.func (.func 104) #[] #[])), (3, One (.agg (#[Value.int .i64 x, .int .i64 y]))), (4, One (Plc (x - 1) y))] (by kernel_rfl) (by kernel_rfl) (by kernel_rfl) (by kernel_rfl) (by kernel_rfl) (by kernel_rfl) (by kernel_rfl) (by kernel_rfl) rfl ((Below.refl _ _).drew) ?_
  refine calm_pure (some 7) (by kernel_rfl) (by kernel_rfl) (by kernel_rfl) (fun _ => by kernel_rfl) ?_
  refine calm_pure (some 8) (by kernel_rfl) (by kernel_rfl) (by kernel_rfl) (fun _ => by kernel_rfl) ?_
  refine calm_read (some 9) (by kernel_rfl) (by kernel_rfl) (by kernel_rfl) (fun w' hw' => load_cell (ty := 95) (x := .tmp 8) (b := w.heap.size + 1 + 1) (o := 3) (by kernel_rfl) (by kernel_rfl) Tryd.underlying95 rfl ((hw'.cell (p := ⟨w.heap.size + 1 + 1, 3, none⟩) (by simp)).trans c3)) ?_
  refine calm_load (some 10) 94 (.tmp 3) (w.heap.size) 0 _ (by kernel_rfl) (by kernel_rfl) (by kernel_rfl) (by kernel_rfl) (by kernel_rfl) (fun w' hw' => range_kept r1 (by omega) w' hw') Tryd.underlying94 rfl infoPlace ?_
  refine calm_call (some 11) 104 #[Plc x y] ⟨_, rfl⟩ (by kernel_rfl) (by kernel_rfl) (by kernel_rfl) (fun _ => by kernel_rfl) (fun w' hw' => (west_any x y (by omega) (by omega) w').mono fun e w2 h => ⟨_, h.1, rfl, below_step hw' h.2 (by have := hw'.size; omega)⟩) ?_
  rintro _ rfl
  refine calm_end fun w' hw' => ?_
  have t3 := there_below t2 hw' (by omega)
  refine plan_do none undef (w'.setCells (w.heap.size + 1) 0 [Value.int .i64 (x - 1), Value.int .i64 y]) (by kernel_rfl) (by kernel_rfl) (by kernel_rfl) (.inr ⟨store_op (x := .tmp 4) (y := .tmp 11) (cs := #[Value.int .i64 (x - 1), .int .i64 y]) (by kernel_rfl) (by kernel_rfl) (by kernel_rfl) t3 infoPlace (by kernel_rfl), rfl⟩) trivial (plan_end (Clean.normal ?_))
  have hr := World.rangeAt_setCells_same w' (w.heap.size + 1) 0 [Value.int .i64 (x - 1), .int .i64 y] t3
  have hb := below_setCells (B := w.heap.size) (a := w) (w.heap.size + 1) (by omega) [Value.int .i64 (x - 1), .int .i64 y] 0 w' (hB.trans (hw'.mono (by omega)))
  obtain ⟨X, hX⟩ : ∃ X, w'.setCells (w.heap.size + 1) 0 [Value.int .i64 (x - 1), .int .i64 y] = X := ⟨_, rfl⟩
  rw [hX] at hr hb ⊢
  clear hX t3 c3 r1 r2 r3 t2
  simp only [Act.put, List.setIfInBounds_toArray, List.set_cons_zero, List.set_cons_succ]
  go_wp2
  exact bodyPost_ret (results_cell_mid rfl _ _ _ 0 _ _ rfl hr Tryd.underlying94 rfl infoPlace) rfl ⟨rfl, hb⟩

theorem of_any (k : Nat) (hk : k < 64) (s : Int) (hs : sideB s = true) (w : World) :
    Calls Tryd.prog 82 #[Value.int .i64 s, Plc ((k % 8 : Nat) : Int) ((k / 8 : Nat) : Int)] w fun e w' => e = .returned (Plc (nx k s) (ny k s)) ∧ Below w.heap.size w w' := by
  rcases side_cases hs with rfl | rfl | rfl | rfl
  · simpa [nx, ny, Int.sub_eq_add_neg] using of_0 ((k % 8 : Nat) : Int) ((k / 8 : Nat) : Int) (by omega) (by omega) (by omega) (by omega) w
  · simpa [nx, ny] using of_1 ((k % 8 : Nat) : Int) ((k / 8 : Nat) : Int) (by omega) (by omega) (by omega) (by omega) w
  · simpa [nx, ny] using of_2 ((k % 8 : Nat) : Int) ((k / 8 : Nat) : Int) (by omega) (by omega) (by omega) (by omega) w
  · simpa [nx, ny, Int.sub_eq_add_neg] using of_3 ((k % 8 : Nat) : Int) ((k / 8 : Nat) : Int) (by omega) (by omega) (by omega) (by omega) w

theorem placeOf_nat (k : Nat) (hk : k < 64) (w : World) :
    Calls Tryd.prog 83 #[Value.int .i64 k] w fun e w' => e = .returned (Plc ((k % 8 : Nat) : Int) ((k / 8 : Nat) : Int)) ∧ Below w.heap.size w w' := by
  have h := placeOf_int k (by omega) (by omega) w
  have ht := (tdm k).1 (by omega)
  rw [ht.1, ht.2] at h
  simpa using h

/-- A place, boxed. -/
theorem plc_box (x y : Int) (t : TypeId) (w : World) : ∃ W, w.alloc (.cells #[Value.int .i64 x, .int .i64 y] t) = W ∧ W.heap.size = w.heap.size + 1 ∧ W.cell? ⟨w.heap.size, 0, none⟩ = some (.int .i64 x) ∧ W.cell? ⟨w.heap.size, 1, none⟩ = some (.int .i64 y) ∧ Below w.heap.size w W :=
  ⟨_, rfl, by simp, cell_of_row _ _ 0 _ _ _ (heap_alloc_last w _), cell_of_row _ _ 1 _ _ _ (heap_alloc_last w _), (Below.refl _ _).alloc (Nat.le_refl _) _⟩

/-- A number and a bool, as a result. -/
def IB (a : Int) (b : Bool) : Value := .tuple #[Value.int .i64 a, .bool b]

set_option maxRecDepth 100000 in
set_option maxHeartbeats 1000000 in
theorem beside_any (G : Gd) (k : Nat) (hk : k < 64) (s : Int) (hs : sideB s = true) (hv : validB G = true) (p : Nat) (w : World) (hp : GrdAt w p 0 G) (hpl : p < w.heap.size) (hG : GdOk G) :
    Calls Tryd.prog 48 #[.pointer (some ⟨p, 0, none⟩), .int .i64 k, .int .i64 s] w fun e w' => e = .returned (IB (if nbB G k s = true then nb k s else 0) (nbB G k s)) ∧ Below w.heap.size w w' := by
  have Hp := Lib.hid hp
  have HG := Lib.hid hG
  have Hv := Lib.hid hv
  clear hp hG hv
  obtain ⟨r, hr⟩ : ∃ r, IB (if nbB G k s = true then nb k s else 0) (nbB G k s) = r := ⟨_, rfl⟩
  rw [hr]
  have HR := Lib.hid hr
  clear hr
  go_enter Tryd.func48, Tryd.ntmps48
  go_upto_region 2 with (first | (go_at_call 83; refine (placeOf_nat k hk _).mono ?_; rintro e w1 ⟨rfl, hb1⟩) | (go_at_call 82; refine (of_any k hk s hs _).mono ?_; rintro e w2 ⟨rfl, hb2⟩; unfold Plc))
  have k2 := hb1.trans (hb2.mono hb1.size)
  have z2 := k2.size
  obtain ⟨V, hV, zV, x0, x1, bV⟩ := plc_box (nx k s) (ny k s) 94 w2
  rw [hV]
  have P2 := Lib.hid ((Hp.out.below k2 hpl).below bV (by omega))
  have B2 := Lib.hid (k2.trans (bV.mono (by omega)))
  clear hV bV hb1 hb2 k2
  cases hn : nbB G k s
  · have Hn := Lib.hid (show holdB G (nx k s) (ny k s) = false from hn)
    have R := Lib.hid (show IB 0 false = r by rw [← HR.out, hn]; rfl)
    clear hn
    go_wp2_with (go_at_call 84; have hc := (holds_any G (nx k s) (ny k s) p V P2.out (by omega) HG.out); rw [Hn.out] at hc; refine hc.mono ?_; clear hc; rintro e w3 ⟨rfl, hb3⟩)
    go_ret2
    exact ⟨congrArg Ending.returned R.out, B2.out.trans (hb3.mono (by omega))⟩
  · have Hn := Lib.hid (show holdB G (nx k s) (ny k s) = true from hn)
    obtain ⟨_, _, n1, n2, n3, n4⟩ := nb_range Hv.out hn
    have R := Lib.hid (show IB (nb k s) true = r by rw [← HR.out, hn]; rfl)
    clear hn
    go_upto_region 4 with (go_at_call 84; have hc := (holds_any G (nx k s) (ny k s) p V P2.out (by omega) HG.out); rw [Hn.out] at hc; refine hc.mono ?_; clear hc; rintro e w3 ⟨rfl, hb3⟩)
    have y0 := (hb3.cell (p := ⟨w2.heap.size, 0, none⟩) (by simp; omega)).trans x0
    have y1 := (hb3.cell (p := ⟨w2.heap.size, 1, none⟩) (by simp; omega)).trans x1
    have z3 := hb3.size
    have B3 := Lib.hid (B2.out.trans (hb3.mono (by omega)))
    clear x0 x1 hb3
    go_wp2_with (go_at_call 85; refine (number_any (nx k s) (ny k s) n1 (by omega) n3 (by omega) _).mono ?_; rintro e w4 ⟨rfl, hb4⟩)
    go_ret2
    exact ⟨congrArg Ending.returned R.out, B3.out.trans (hb4.mono (by omega))⟩
end Go.Proofs.YtcfkkceidlpdkaaDoor
