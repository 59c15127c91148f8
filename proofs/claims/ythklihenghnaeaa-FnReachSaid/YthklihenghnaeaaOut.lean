/- ArgumentAt and DrawdownAt, the program's and the model's, as values. No condition. -/
import Derived.Test.YthklihenghnaeaaDrwI
namespace Go.Proofs.Ythklihenghnaeaa
open Go Go.RowKit Ieee
set_option linter.unusedSimpArgs false
set_option linter.unusedVariables false
attribute [local go_sem] run_store_f32

theorem ask_cases (T S : Nat) (X Y : Int) (R : Nat) (x y : Int) (ts : List Int) : askV T S X Y R x y ts = 0 ∨ askV T S X Y R x y ts = 1 ∨ askV T S X Y R x y ts = 2 := by
  unfold askV
  split
  · split
    · exact .inl rfl
    · exact .inr (.inr rfl)
  · exact .inr (.inl rfl)
theorem pl_bounds {n : Int} (h : plB n = true) : -100 ≤ n ∧ n ≤ 100 := by
  simp only [plB, Bool.and_eq_true, decide_eq_true_eq] at h
  exact h
theorem tm_bounds {n : Int} (h : tmB n = true) : 1 ≤ n ∧ n ≤ 100000 := by
  simp only [tmB, Bool.and_eq_true, decide_eq_true_eq] at h
  exact h
theorem we_bounds {X Y : Int} {R : Nat} (h : weB X Y R = true) : (-100 ≤ X ∧ X ≤ 100) ∧ (-100 ≤ Y ∧ Y ≤ 100) := by
  simp only [weB, Bool.and_eq_true] at h
  exact ⟨pl_bounds h.1.1, pl_bounds h.1.2⟩
theorem ask_ok {T S : Nat} {X Y : Int} {R : Nat} {x y : Int} {ts : List Int} (hT : T < 4294967296) (hS : S < 4294967296) (h : askV T S X Y R x y ts = 0) :
    (981467136 ≤ T ∧ T ≤ 1233125376) ∧ (897581056 ≤ S ∧ S ≤ 1065353216) ∧ (-100 ≤ X ∧ X ≤ 100) ∧ (-100 ≤ Y ∧ Y ≤ 100) ∧ (-100 ≤ x ∧ x ≤ 100) ∧ (-100 ≤ y ∧ y ≤ 100) ∧ ∀ t ∈ ts, 1 ≤ t ∧ t ≤ 100000 := by
  unfold askV at h
  split at h
  · rename_i h1
    split at h
    · rename_i h2
      simp only [Bool.and_eq_true, List.all_eq_true] at h1 h2
      obtain ⟨a, b, c, d⟩ := aq_bits hT hS h1.1
      obtain ⟨e, f⟩ := we_bounds h1.2
      exact ⟨⟨a, b⟩, ⟨c, d⟩, e, f, pl_bounds h2.1.1, pl_bounds h2.1.2, fun t ht => tm_bounds (h2.2 t ht)⟩
    · cases h
  · cases h
/-- A number and a code, if all is as asked. -/
def outV (o : Option Nat) (n : Int) : Option Nat × Int := if n = 0 then (o, 0) else (num .f32 0, n)
theorem outV_ex {o : Option Nat} (h : ∃ r, num .f32 r = o) (n : Int) : ∃ r, num .f32 r = (outV o n).1 := by
  unfold outV
  split
  · exact h
  · exact ⟨0, rfl⟩

set_option maxRecDepth 100000 in
set_option maxHeartbeats 2000000 in
theorem specArgumentAt_any (T S : Nat) (hT : T < 4294967296) (hS : S < 4294967296) (X Y : Int) (R : Nat) (hX : -128 ≤ X ∧ X ≤ 127) (hY : -128 ≤ Y ∧ Y ≤ 127) (x y t : Int) (w : World) : Calls Try.prog 28 #[.agg (Aq T S), .agg (We X Y R), .int .i64 x, .int .i64 y, .int .i64 t] w (GvR (outV (num .f32 (argN T S (x - X) (y - Y) t)) (askV T S X Y R x y [t])).1 (outV (num .f32 (argN T S (x - X) (y - Y) t)) (askV T S X Y R x y [t])).2 w) := by
  obtain ⟨z, b0, b1, b2, B0⟩ := laid3 w (.cells #[.float .f32 T, .float .f32 S] 26) (.cells #[.int .i8 X, .int .i8 Y, .float .f32 R] 30) (.cells #[.int .i8 X, .int .i8 Y, .float .f32 R] 30)
  have HA := l03Asked_any T S X Y R hX hY x y t (w.heap.size + 1 + 1) 1 (w.alloc (.cells #[.float .f32 T, .float .f32 S] 26) |>.alloc (.cells #[.int .i8 X, .int .i8 Y, .float .f32 R] 30) |>.alloc (.cells #[.int .i8 X, .int .i8 Y, .float .f32 R] 30)) (by omega) (rangeAt_row b2)
  obtain ⟨n, hn⟩ : ∃ n, askV T S X Y R x y [t] = n := ⟨_, rfl⟩
  have hcs := ask_cases T S X Y R x y [t]
  rw [hn] at HA hcs ⊢
  simp only [Aq, We] at HA ⊢
  rcases hcs with rfl | rfl | rfl
  · obtain ⟨kT, kS, kX, kY, kx, ky, kt⟩ := ask_ok hT hS hn
    have HV := Lib.hid (show outV (num .f32 (argN T S (x - X) (y - Y) t)) 0 = (num .f32 (argN T S (x - X) (y - Y) t), 0) from rfl)
    have HI := fun V => l03Argument_any T S X Y R x y t kT kS kX kY kx ky (kt t (by simp)) V
    simp only [Aq, We] at HI
    clear hn
    go_enter Try.func28, Try.ntmps28
    go_wp2_with (first | (go_at_call 58; refine HA.mono ?_; rintro e V1 ⟨rfl, hq1⟩; have d0 : V1.cell? ⟨w.heap.size, 0, none⟩ = some (.float .f32 T) := cell_of_row _ _ 0 _ _ _ ((hq1.block w.heap.size (by omega)).trans b0); have d1 : V1.cell? ⟨w.heap.size, 1, none⟩ = some (.float .f32 S) := cell_of_row _ _ 1 _ _ _ ((hq1.block w.heap.size (by omega)).trans b0); have e0 : V1.cell? ⟨w.heap.size + 1, 0, none⟩ = some (.int .i8 X) := cell_of_row _ _ 0 _ _ _ ((hq1.block (w.heap.size + 1) (by omega)).trans b1); have e1 : V1.cell? ⟨w.heap.size + 1, 1, none⟩ = some (.int .i8 Y) := cell_of_row _ _ 1 _ _ _ ((hq1.block (w.heap.size + 1) (by omega)).trans b1); have e2 : V1.cell? ⟨w.heap.size + 1, 2, none⟩ = some (.float .f32 R) := cell_of_row _ _ 2 _ _ _ ((hq1.block (w.heap.size + 1) (by omega)).trans b1); have Q1 := Lib.hid (B0.trans (hq1.mono (by omega))); clear hq1 HA B0 b0 b1 b2 z) | (go_at_call 64; refine (HI _).mono ?_; clear HI; rintro e V2 ⟨rfl, hq2⟩; have Q2 := Lib.hid (Q1.out.trans (hq2.mono Q1.out.size)); clear hq2))
    go_ret2
    rw [HV.out]
    exact ⟨_, rfl, rfl, Q2.out⟩
  · have HV := Lib.hid (show outV (num .f32 (argN T S (x - X) (y - Y) t)) 1 = (num .f32 0, 1) from rfl)
    clear hn
    go_enter Try.func28, Try.ntmps28
    go_wp2_with (go_at_call 58; refine HA.mono ?_; rintro e V1 ⟨rfl, hq1⟩; have Q1 := Lib.hid (B0.trans (hq1.mono (by omega))); clear hq1 HA B0 b0 b1 b2 z)
    go_ret2
    rw [HV.out]
    exact ⟨0, rfl, rfl, Q1.out⟩
  · have HV := Lib.hid (show outV (num .f32 (argN T S (x - X) (y - Y) t)) 2 = (num .f32 0, 2) from rfl)
    clear hn
    go_enter Try.func28, Try.ntmps28
    go_wp2_with (go_at_call 58; refine HA.mono ?_; rintro e V1 ⟨rfl, hq1⟩; have Q1 := Lib.hid (B0.trans (hq1.mono (by omega))); clear hq1 HA B0 b0 b1 b2 z)
    go_ret2
    rw [HV.out]
    exact ⟨0, rfl, rfl, Q1.out⟩

set_option maxRecDepth 100000 in
set_option maxHeartbeats 2000000 in
theorem specDrawdownAt_any (T S : Nat) (hT : T < 4294967296) (hS : S < 4294967296) (X Y : Int) (R : Nat) (hX : -128 ≤ X ∧ X ≤ 127) (hY : -128 ≤ Y ∧ Y ≤ 127) (x y t : Int) (w : World) : Calls Try.prog 32 #[.agg (Aq T S), .agg (We X Y R), .int .i64 x, .int .i64 y, .int .i64 t] w (GvR (outV (drwV T S R (x - X) (y - Y) t) (askV T S X Y R x y [t])).1 (outV (drwV T S R (x - X) (y - Y) t) (askV T S X Y R x y [t])).2 w) := by
  obtain ⟨z, b0, b1, b2, B0⟩ := laid3 w (.cells #[.float .f32 T, .float .f32 S] 26) (.cells #[.int .i8 X, .int .i8 Y, .float .f32 R] 30) (.cells #[.int .i8 X, .int .i8 Y, .float .f32 R] 30)
  have HA := l03Asked_any T S X Y R hX hY x y t (w.heap.size + 1 + 1) 1 (w.alloc (.cells #[.float .f32 T, .float .f32 S] 26) |>.alloc (.cells #[.int .i8 X, .int .i8 Y, .float .f32 R] 30) |>.alloc (.cells #[.int .i8 X, .int .i8 Y, .float .f32 R] 30)) (by omega) (rangeAt_row b2)
  obtain ⟨n, hn⟩ : ∃ n, askV T S X Y R x y [t] = n := ⟨_, rfl⟩
  have hcs := ask_cases T S X Y R x y [t]
  rw [hn] at HA hcs ⊢
  simp only [Aq, We] at HA ⊢
  rcases hcs with rfl | rfl | rfl
  · obtain ⟨kT, kS, kX, kY, kx, ky, kt⟩ := ask_ok hT hS hn
    have HV := Lib.hid (show outV (drwV T S R (x - X) (y - Y) t) 0 = (drwV T S R (x - X) (y - Y) t, 0) from rfl)
    have HI := fun V => l03Drawdown_any T S X Y R x y t kT kS kX kY kx ky (kt t (by simp)) V
    simp only [Aq, We] at HI
    clear hn
    go_enter Try.func32, Try.ntmps32
    go_wp2_with (first | (go_at_call 58; refine HA.mono ?_; rintro e V1 ⟨rfl, hq1⟩; have d0 : V1.cell? ⟨w.heap.size, 0, none⟩ = some (.float .f32 T) := cell_of_row _ _ 0 _ _ _ ((hq1.block w.heap.size (by omega)).trans b0); have d1 : V1.cell? ⟨w.heap.size, 1, none⟩ = some (.float .f32 S) := cell_of_row _ _ 1 _ _ _ ((hq1.block w.heap.size (by omega)).trans b0); have e0 : V1.cell? ⟨w.heap.size + 1, 0, none⟩ = some (.int .i8 X) := cell_of_row _ _ 0 _ _ _ ((hq1.block (w.heap.size + 1) (by omega)).trans b1); have e1 : V1.cell? ⟨w.heap.size + 1, 1, none⟩ = some (.int .i8 Y) := cell_of_row _ _ 1 _ _ _ ((hq1.block (w.heap.size + 1) (by omega)).trans b1); have e2 : V1.cell? ⟨w.heap.size + 1, 2, none⟩ = some (.float .f32 R) := cell_of_row _ _ 2 _ _ _ ((hq1.block (w.heap.size + 1) (by omega)).trans b1); have Q1 := Lib.hid (B0.trans (hq1.mono (by omega))); clear hq1 HA B0 b0 b1 b2 z) | (go_at_call 59; refine (HI _).mono ?_; clear HI; rintro e V2 ⟨re, rfl, hr, hq2⟩; have HE := Lib.hid hr; clear hr; have Q2 := Lib.hid (Q1.out.trans (hq2.mono Q1.out.size)); clear hq2))
    go_ret2
    rw [HV.out]
    exact ⟨_, rfl, HE.out, Q2.out⟩
  · have HV := Lib.hid (show outV (drwV T S R (x - X) (y - Y) t) 1 = (num .f32 0, 1) from rfl)
    clear hn
    go_enter Try.func32, Try.ntmps32
    go_wp2_with (go_at_call 58; refine HA.mono ?_; rintro e V1 ⟨rfl, hq1⟩; have Q1 := Lib.hid (B0.trans (hq1.mono (by omega))); clear hq1 HA B0 b0 b1 b2 z)
    go_ret2
    rw [HV.out]
    exact ⟨0, rfl, rfl, Q1.out⟩
  · have HV := Lib.hid (show outV (drwV T S R (x - X) (y - Y) t) 2 = (num .f32 0, 2) from rfl)
    clear hn
    go_enter Try.func32, Try.ntmps32
    go_wp2_with (go_at_call 58; refine HA.mono ?_; rintro e V1 ⟨rfl, hq1⟩; have Q1 := Lib.hid (B0.trans (hq1.mono (by omega))); clear hq1 HA B0 b0 b1 b2 z)
    go_ret2
    rw [HV.out]
    exact ⟨0, rfl, rfl, Q1.out⟩

set_option maxRecDepth 100000 in
set_option maxHeartbeats 2000000 in
theorem implArgumentAt_any (T S : Nat) (hT : T < 4294967296) (hS : S < 4294967296) (X Y : Int) (R : Nat) (hX : -128 ≤ X ∧ X ≤ 127) (hY : -128 ≤ Y ∧ Y ≤ 127) (x y t : Int) (w : World) : Calls Try.prog 30 #[.agg (Aq T S), .agg (We X Y R), .int .i64 x, .int .i64 y, .int .i64 t] w (GvR (outV (num .f32 (argN T S (x - X) (y - Y) t)) (askV T S X Y R x y [t])).1 (outV (num .f32 (argN T S (x - X) (y - Y) t)) (askV T S X Y R x y [t])).2 w) := by
  obtain ⟨z, b0, b1, b2, b3, B0⟩ := laid4 w (.cells #[.float .f32 T, .float .f32 S] 26) (.cells #[.int .i8 X, .int .i8 Y, .float .f32 R] 30) (.cells #[.int .i64 x, .int .i64 y] 82) (.cells #[.int .i64 t] 2)
  have HA := checkWell_any T S X Y R hX hY x y t (w.heap.size + 1 + 1 + 1) 1 (w.alloc (.cells #[.float .f32 T, .float .f32 S] 26) |>.alloc (.cells #[.int .i8 X, .int .i8 Y, .float .f32 R] 30) |>.alloc (.cells #[.int .i64 x, .int .i64 y] 82) |>.alloc (.cells #[.int .i64 t] 2)) (by omega) (rangeAt_row b3)
  obtain ⟨n, hn⟩ : ∃ n, askV T S X Y R x y [t] = n := ⟨_, rfl⟩
  have hcs := ask_cases T S X Y R x y [t]
  rw [hn] at HA hcs ⊢
  simp only [Aq, We, Pc] at HA ⊢
  rcases hcs with rfl | rfl | rfl
  · obtain ⟨kT, kS, kX, kY, kx, ky, kt⟩ := ask_ok hT hS hn
    have ht := kt t (by simp)
    have HV := Lib.hid (show outV (num .f32 (argN T S (x - X) (y - Y) t)) 0 = (num .f32 (argN T S (x - X) (y - Y) t), 0) from rfl)
    clear hn kt
    go_enter Try.func30, Try.ntmps30
    go_upto_region 5 with (go_at_call 54; refine HA.mono ?_; clear HA; rintro e V1 ⟨rfl, hq1⟩; have R0 := Lib.hid (rangeAt_below hq1 (by omega) (rangeAt_row b0)); have R1 := Lib.hid (rangeAt_below hq1 (by omega) (rangeAt_row b1)); have R2 := Lib.hid (rangeAt_below hq1 (by omega) (rangeAt_row b2)); have Q1 := Lib.hid (B0.trans (hq1.mono (by omega))); have z1 := hq1.size; rw [z] at z1; clear hq1 B0 b0 b1 b2 b3 z)
    refine wp_region_calm (ops' := regOf Try.f30 5) [0, 1, 2, 3, 4, 5, 6, 7, 8] [] .fin (Below (w.heap.size + 1 + 1 + 1 + 1) V1) [(0, One (.agg (We X Y R))), (1, One (.agg (Sk X Y R))), (2, One (.agg (Aq T S))), (3, One (.agg (Pc x y))), (4, One (.int .i64 t)), (5, One (.agg (Oc T S (dF (x - X) (y - Y)) (floatOfInt .f32 t)))), (6, One (.float .f32 (argN T S (x - X) (y - Y) t))), (7, One (.float .f32 (argN T S (x - X) (y - Y) t))), (8, One (.int .i64 0))] (by kernel_rfl) (by kernel_rfl) (by kernel_rfl) (by kernel_rfl) (by kernel_rfl) (by kernel_rfl) (by kernel_rfl) (by kernel_rfl) rfl ((Below.refl _ _).drew) ?_
    refine calm_load (some 26) 30 (.tmp 6) ((w.heap.size + 1)) 0 _ (by kernel_rfl) (by kernel_rfl) (by kernel_rfl) (by kernel_rfl) (by kernel_rfl) (fun w' hw' => range_kept (n := w.heap.size + 1 + 1 + 1 + 1) R1.out (by omega) _ hw') Try.underlying30 rfl (by kernel_rfl) ?_
    refine calm_call (some 27) 55 #[.agg (We X Y R)] ⟨_, rfl⟩ (by kernel_rfl) (by kernel_rfl) (by kernel_rfl) (fun _ => by kernel_rfl) (fun w' hw' => (sunk_any X Y R hX hY w').mono fun e w2 h => ⟨_, h.1, rfl, below_step hw' h.2 (by have := hw'.size; omega)⟩) ?_
    rintro _ rfl
    refine calm_load (some 28) 26 (.tmp 5) (w.heap.size) 0 _ (by kernel_rfl) (by kernel_rfl) (by kernel_rfl) (by kernel_rfl) (by kernel_rfl) (fun w' hw' => range_kept (n := w.heap.size + 1 + 1 + 1 + 1) R0.out (by omega) _ hw') Try.underlying26 rfl (by kernel_rfl) ?_
    refine calm_load (some 29) 82 (.tmp 12) ((w.heap.size + 1 + 1)) 0 _ (by kernel_rfl) (by kernel_rfl) (by kernel_rfl) (by kernel_rfl) (by kernel_rfl) (fun w' hw' => range_kept (n := w.heap.size + 1 + 1 + 1 + 1) R2.out (by omega) _ hw') Try.underlying82 rfl (by kernel_rfl) ?_
    refine calm_pure (some 30) (by kernel_rfl) (by kernel_rfl) (by kernel_rfl) (fun _ => by kernel_rfl) ?_
    refine calm_call (some 31) 65 #[.agg (Sk X Y R), .agg (Aq T S), .agg (Pc x y), .int .i64 t] ⟨_, rfl⟩ (by kernel_rfl) (by kernel_rfl) (by kernel_rfl) (fun _ => by kernel_rfl) (fun w' hw' => (seenFrom_any T S X Y R x y t kX kY kx ky w').mono fun e w2 h => ⟨_, h.1, rfl, below_step hw' h.2 (by have := hw'.size; omega)⟩) ?_
    rintro _ rfl
    refine calm_call (some 32) 66 #[.agg (Oc T S (dF (x - X) (y - Y)) (floatOfInt .f32 t))] ⟨_, rfl⟩ (by kernel_rfl) (by kernel_rfl) (by kernel_rfl) (fun _ => by kernel_rfl) (fun w' hw' => (argumentI_any T S X Y x y t kT kS kX kY kx ky ht w').mono fun e w2 h => ⟨_, h.1, rfl, below_step hw' h.2 (by have := hw'.size; omega)⟩) ?_
    rintro _ rfl
    refine calm_pure (some 10) (by kernel_rfl) (by kernel_rfl) (by kernel_rfl) (fun _ => by kernel_rfl) ?_
    refine calm_pure (some 11) (by kernel_rfl) (by kernel_rfl) (by kernel_rfl) (fun _ => by kernel_rfl) ?_
    refine calm_end fun w1 hw1 => plan_end (Clean.normal ?_)
    simp only [Act.put, List.setIfInBounds_toArray, List.set_cons_zero, List.set_cons_succ]
    go_wp2
    go_ret2
    rw [HV.out]
    exact ⟨_, rfl, rfl, Q1.out.trans (hw1.mono (by omega))⟩
  · have HV := Lib.hid (show outV (num .f32 (argN T S (x - X) (y - Y) t)) 1 = (num .f32 0, 1) from rfl)
    clear hn
    go_enter Try.func30, Try.ntmps30
    go_wp2_with (go_at_call 54; refine HA.mono ?_; clear HA; rintro e V1 ⟨rfl, hq1⟩; have Q1 := Lib.hid (B0.trans (hq1.mono (by omega))); clear hq1 B0 b0 b1 b2 b3 z)
    go_ret2
    rw [HV.out]
    exact ⟨0, rfl, rfl, Q1.out⟩
  · have HV := Lib.hid (show outV (num .f32 (argN T S (x - X) (y - Y) t)) 2 = (num .f32 0, 2) from rfl)
    clear hn
    go_enter Try.func30, Try.ntmps30
    go_wp2_with (go_at_call 54; refine HA.mono ?_; clear HA; rintro e V1 ⟨rfl, hq1⟩; have Q1 := Lib.hid (B0.trans (hq1.mono (by omega))); clear hq1 B0 b0 b1 b2 b3 z)
    go_ret2
    rw [HV.out]
    exact ⟨0, rfl, rfl, Q1.out⟩

set_option maxRecDepth 100000 in
set_option maxHeartbeats 2000000 in
theorem implDrawdownAt_any (T S : Nat) (hT : T < 4294967296) (hS : S < 4294967296) (X Y : Int) (R : Nat) (hX : -128 ≤ X ∧ X ≤ 127) (hY : -128 ≤ Y ∧ Y ≤ 127) (x y t : Int) (w : World) : Calls Try.prog 21 #[.agg (Aq T S), .agg (We X Y R), .int .i64 x, .int .i64 y, .int .i64 t] w (GvR (outV (drwV T S R (x - X) (y - Y) t) (askV T S X Y R x y [t])).1 (outV (drwV T S R (x - X) (y - Y) t) (askV T S X Y R x y [t])).2 w) := by
  obtain ⟨z, b0, b1, b2, b3, B0⟩ := laid4 w (.cells #[.float .f32 T, .float .f32 S] 26) (.cells #[.int .i8 X, .int .i8 Y, .float .f32 R] 30) (.cells #[.int .i64 x, .int .i64 y] 82) (.cells #[.int .i64 t] 2)
  have HA := checkWell_any T S X Y R hX hY x y t (w.heap.size + 1 + 1 + 1) 1 (w.alloc (.cells #[.float .f32 T, .float .f32 S] 26) |>.alloc (.cells #[.int .i8 X, .int .i8 Y, .float .f32 R] 30) |>.alloc (.cells #[.int .i64 x, .int .i64 y] 82) |>.alloc (.cells #[.int .i64 t] 2)) (by omega) (rangeAt_row b3)
  obtain ⟨n, hn⟩ : ∃ n, askV T S X Y R x y [t] = n := ⟨_, rfl⟩
  have hcs := ask_cases T S X Y R x y [t]
  rw [hn] at HA hcs ⊢
  simp only [Aq, We, Pc] at HA ⊢
  rcases hcs with rfl | rfl | rfl
  · obtain ⟨kT, kS, kX, kY, kx, ky, kt⟩ := ask_ok hT hS hn
    have ht := kt t (by simp)
    have HV := Lib.hid (show outV (drwV T S R (x - X) (y - Y) t) 0 = (drwV T S R (x - X) (y - Y) t, 0) from rfl)
    clear hn kt
    go_enter Try.func21, Try.ntmps21
    go_upto_region 5 with (go_at_call 54; refine HA.mono ?_; clear HA; rintro e V1 ⟨rfl, hq1⟩; have R0 := Lib.hid (rangeAt_below hq1 (by omega) (rangeAt_row b0)); have R1 := Lib.hid (rangeAt_below hq1 (by omega) (rangeAt_row b1)); have R2 := Lib.hid (rangeAt_below hq1 (by omega) (rangeAt_row b2)); have Q1 := Lib.hid (B0.trans (hq1.mono (by omega))); have z1 := hq1.size; rw [z] at z1; clear hq1 B0 b0 b1 b2 b3 z)
    refine wp_region_calm (ops' := regOf Try.f21 5) [0, 1, 2, 3, 4, 5, 6, 7] [] .fin (Below (w.heap.size + 1 + 1 + 1 + 1) V1) [(0, One (.agg (We X Y R))), (1, One (.agg (Sk X Y R))), (2, One (.agg (Aq T S))), (3, One (.agg (Pc x y))), (4, One (.int .i64 t)), (5, Numv .f32 (drwV T S R (x - X) (y - Y) t)), (6, Numv .f32 (drwV T S R (x - X) (y - Y) t)), (7, One (.int .i64 0))] (by kernel_rfl) (by kernel_rfl) (by kernel_rfl) (by kernel_rfl) (by kernel_rfl) (by kernel_rfl) (by kernel_rfl) (by kernel_rfl) rfl ((Below.refl _ _).drew) ?_
    refine calm_load (some 26) 30 (.tmp 6) ((w.heap.size + 1)) 0 _ (by kernel_rfl) (by kernel_rfl) (by kernel_rfl) (by kernel_rfl) (by kernel_rfl) (fun w' hw' => range_kept (n := w.heap.size + 1 + 1 + 1 + 1) R1.out (by omega) _ hw') Try.underlying30 rfl (by kernel_rfl) ?_
    refine calm_call (some 27) 55 #[.agg (We X Y R)] ⟨_, rfl⟩ (by kernel_rfl) (by kernel_rfl) (by kernel_rfl) (fun _ => by kernel_rfl) (fun w' hw' => (sunk_any X Y R hX hY w').mono fun e w2 h => ⟨_, h.1, rfl, below_step hw' h.2 (by have := hw'.size; omega)⟩) ?_
    rintro _ rfl
    refine calm_load (some 28) 26 (.tmp 5) (w.heap.size) 0 _ (by kernel_rfl) (by kernel_rfl) (by kernel_rfl) (by kernel_rfl) (by kernel_rfl) (fun w' hw' => range_kept (n := w.heap.size + 1 + 1 + 1 + 1) R0.out (by omega) _ hw') Try.underlying26 rfl (by kernel_rfl) ?_
    refine calm_load (some 29) 82 (.tmp 12) ((w.heap.size + 1 + 1)) 0 _ (by kernel_rfl) (by kernel_rfl) (by kernel_rfl) (by kernel_rfl) (by kernel_rfl) (fun w' hw' => range_kept (n := w.heap.size + 1 + 1 + 1 + 1) R2.out (by omega) _ hw') Try.underlying82 rfl (by kernel_rfl) ?_
    refine calm_pure (some 30) (by kernel_rfl) (by kernel_rfl) (by kernel_rfl) (fun _ => by kernel_rfl) ?_
    refine calm_call (some 31) 56 #[.agg (Sk X Y R), .agg (Aq T S), .agg (Pc x y), .int .i64 t] (numv_ne (drwV_ex T S R (x - X) (y - Y) t)) (by kernel_rfl) (by kernel_rfl) (by kernel_rfl) (fun _ => by kernel_rfl) (fun w' hw' => (drawdownAt_any T S X Y R x y t kT kS kX kY kx ky ht w').mono fun e w2 ⟨r, he, hr, hq⟩ => ⟨_, he, ⟨r, rfl, hr⟩, below_step hw' hq (by have := hw'.size; omega)⟩) ?_
    rintro _ ⟨r31, rfl, hr31⟩
    refine calm_pureV (some 10) (.float .f32 r31) ⟨_, rfl, hr31⟩ (by kernel_rfl) (by kernel_rfl) (by kernel_rfl) (fun _ => by kernel_rfl) ?_
    rintro _ ⟨r10, rfl, hr10⟩
    refine calm_pure (some 11) (by kernel_rfl) (by kernel_rfl) (by kernel_rfl) (fun _ => by kernel_rfl) ?_
    refine calm_end fun w1 hw1 => plan_end (Clean.normal ?_)
    simp only [Act.put, List.setIfInBounds_toArray, List.set_cons_zero, List.set_cons_succ]
    go_wp2
    go_ret2
    rw [HV.out]
    exact ⟨_, rfl, hr10, Q1.out.trans (hw1.mono (by omega))⟩
  · have HV := Lib.hid (show outV (drwV T S R (x - X) (y - Y) t) 1 = (num .f32 0, 1) from rfl)
    clear hn
    go_enter Try.func21, Try.ntmps21
    go_wp2_with (go_at_call 54; refine HA.mono ?_; clear HA; rintro e V1 ⟨rfl, hq1⟩; have Q1 := Lib.hid (B0.trans (hq1.mono (by omega))); clear hq1 B0 b0 b1 b2 b3 z)
    go_ret2
    rw [HV.out]
    exact ⟨0, rfl, rfl, Q1.out⟩
  · have HV := Lib.hid (show outV (drwV T S R (x - X) (y - Y) t) 2 = (num .f32 0, 2) from rfl)
    clear hn
    go_enter Try.func21, Try.ntmps21
    go_wp2_with (go_at_call 54; refine HA.mono ?_; clear HA; rintro e V1 ⟨rfl, hq1⟩; have Q1 := Lib.hid (B0.trans (hq1.mono (by omega))); clear hq1 B0 b0 b1 b2 b3 z)
    go_ret2
    rw [HV.out]
    exact ⟨0, rfl, rfl, Q1.out⟩
end Go.Proofs.Ythklihenghnaeaa
