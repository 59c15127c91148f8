/- RecoveryAt, the program's and the model's, as values. No condition. -/
import Derived.Test.YthklihenghnaeaaOut
namespace Go.Proofs.Ythklihenghnaeaa
open Go Go.RowKit Ieee
set_option linter.unusedSimpArgs false
set_option linter.unusedVariables false
attribute [local go_sem] run_store_f32

/-- The drawdown of a well that stops. -/
def recV (T S R : Nat) (dx dy stop t : Int) : Option Nat := if t ≤ stop then drwV T S R dx dy t else fop .f32 .sub (drwV T S R dx dy t) (drwV T S R dx dy (t - stop))
theorem recV_ex (T S R : Nat) (dx dy stop t : Int) : ∃ r, num .f32 r = recV T S R dx dy stop t := by
  unfold recV
  split
  · exact drwV_ex _ _ _ _ _ _
  · exact fop_any _ rfl _ _
theorem ask_two (T S : Nat) (X Y : Int) (R : Nat) (x y stop t : Int) : askV T S X Y R x y [stop, t] = if askV T S X Y R x y [t] = 0 then (if tmB stop = true then 0 else 2) else askV T S X Y R x y [t] := by
  unfold askV
  cases (aqB T S && weB X Y R) <;> cases plB x <;> cases plB y <;> cases h1 : tmB stop <;> cases h2 : tmB t <;> simp [List.all, h1, h2]

set_option maxRecDepth 100000 in
set_option maxHeartbeats 2000000 in
theorem specRecoveryAt_any (T S : Nat) (hT : T < 4294967296) (hS : S < 4294967296) (X Y : Int) (R : Nat) (hX : -128 ≤ X ∧ X ≤ 127) (hY : -128 ≤ Y ∧ Y ≤ 127) (x y stop t : Int) (w : World) : Calls Try.prog 33 #[.agg (Aq T S), .agg (We X Y R), .int .i64 x, .int .i64 y, .int .i64 stop, .int .i64 t] w (GvR (outV (recV T S R (x - X) (y - Y) stop t) (askV T S X Y R x y [stop, t])).1 (outV (recV T S R (x - X) (y - Y) stop t) (askV T S X Y R x y [stop, t])).2 w) := by
  obtain ⟨z, b0, b1, b2, B0⟩ := laid3 w (.cells #[.float .f32 T, .float .f32 S] 26) (.cells #[.int .i8 X, .int .i8 Y, .float .f32 R] 30) (.cells #[.int .i8 X, .int .i8 Y, .float .f32 R] 30)
  have HA := l03Asked_any T S X Y R hX hY x y t (w.heap.size + 1 + 1) 1 (w.alloc (.cells #[.float .f32 T, .float .f32 S] 26) |>.alloc (.cells #[.int .i8 X, .int .i8 Y, .float .f32 R] 30) |>.alloc (.cells #[.int .i8 X, .int .i8 Y, .float .f32 R] 30)) (by omega) (rangeAt_row b2)
  have h2 := ask_two T S X Y R x y stop t
  obtain ⟨n, hn⟩ : ∃ n, askV T S X Y R x y [t] = n := ⟨_, rfl⟩
  have hcs := ask_cases T S X Y R x y [t]
  rw [hn] at HA hcs h2
  obtain ⟨m, hm⟩ : ∃ m, askV T S X Y R x y [stop, t] = m := ⟨_, rfl⟩
  rw [hm] at h2 ⊢
  clear hm
  simp only [Aq, We] at HA ⊢
  rcases hcs with rfl | rfl | rfl
  · cases cs : tmB stop
    · obtain rfl : m = 2 := by rw [h2, cs]; rfl
      have HV := Lib.hid (show outV (recV T S R (x - X) (y - Y) stop t) 2 = (num .f32 0, 2) from rfl)
      clear hn h2
      go_enter Try.func33, Try.ntmps33
      go_wp2_with (first | (go_at_call 58; refine HA.mono ?_; clear HA; rintro e V1 ⟨rfl, hq1⟩; have Q1 := Lib.hid (B0.trans (hq1.mono (by omega))); clear hq1 B0 b0 b1 b2 z) | (go_at_call 67; refine (moment_is stop false cs _).mono ?_; rintro e w' ⟨rfl, rfl⟩))
      go_ret2
      rw [HV.out]
      exact ⟨0, rfl, rfl, Q1.out⟩
    · obtain rfl : m = 0 := by rw [h2, cs]; rfl
      obtain ⟨kT, kS, kX, kY, kx, ky, kt⟩ := ask_ok hT hS hn
      have ht := kt t (by simp)
      have hs := tm_bounds cs
      have HI := fun V => l03Drawdown_any T S X Y R x y t kT kS kX kY kx ky ht V
      simp only [Aq, We] at HI
      clear hn h2 kt
      by_cases hle : t ≤ stop
      · have HV := Lib.hid (show outV (recV T S R (x - X) (y - Y) stop t) 0 = (drwV T S R (x - X) (y - Y) t, 0) by rw [show recV T S R (x - X) (y - Y) stop t = drwV T S R (x - X) (y - Y) t from if_pos hle]; rfl)
        have hgt : ¬ stop < t := by omega
        have t38 : True := trivial
        go_enter Try.func33, Try.ntmps33
        go_wp2_with (first | (go_at_call 58; refine HA.mono ?_; clear HA; rintro e V1 ⟨rfl, hq1⟩; have d0 : V1.cell? ⟨w.heap.size, 0, none⟩ = some (.float .f32 T) := cell_of_row _ _ 0 _ _ _ ((hq1.block w.heap.size (by omega)).trans b0); have d1 : V1.cell? ⟨w.heap.size, 1, none⟩ = some (.float .f32 S) := cell_of_row _ _ 1 _ _ _ ((hq1.block w.heap.size (by omega)).trans b0); have e0 : V1.cell? ⟨w.heap.size + 1, 0, none⟩ = some (.int .i8 X) := cell_of_row _ _ 0 _ _ _ ((hq1.block (w.heap.size + 1) (by omega)).trans b1); have e1 : V1.cell? ⟨w.heap.size + 1, 1, none⟩ = some (.int .i8 Y) := cell_of_row _ _ 1 _ _ _ ((hq1.block (w.heap.size + 1) (by omega)).trans b1); have e2 : V1.cell? ⟨w.heap.size + 1, 2, none⟩ = some (.float .f32 R) := cell_of_row _ _ 2 _ _ _ ((hq1.block (w.heap.size + 1) (by omega)).trans b1); have Q1 := Lib.hid (B0.trans (hq1.mono (by omega))); have z1 := hq1.size; rw [z] at z1; clear hq1 B0 b0 b1 b2 z) | (go_at_call 67; refine (moment_is stop true cs _).mono ?_; rintro e w' ⟨rfl, rfl⟩) | (have _t := t38; go_at_call 59; refine (HI V1).mono ?_; clear t38; rintro e V2 ⟨r38, rfl, hr38, hq2⟩; have H38 := Lib.hid hr38; have d0 := (hq2.cell (p := ⟨w.heap.size, 0, none⟩) (by show w.heap.size < _; omega)).trans d0; have d1 := (hq2.cell (p := ⟨w.heap.size, 1, none⟩) (by show w.heap.size < _; omega)).trans d1; have e0 := (hq2.cell (p := ⟨w.heap.size + 1, 0, none⟩) (by show w.heap.size + 1 < _; omega)).trans e0; have e1 := (hq2.cell (p := ⟨w.heap.size + 1, 1, none⟩) (by show w.heap.size + 1 < _; omega)).trans e1; have e2 := (hq2.cell (p := ⟨w.heap.size + 1, 2, none⟩) (by show w.heap.size + 1 < _; omega)).trans e2; have Q2 := Lib.hid (Q1.out.trans (hq2.mono Q1.out.size)); clear hq2 hr38))
        go_ret2
        rw [HV.out]
        exact ⟨_, rfl, H38.out, Q2.out⟩
      · have HV := Lib.hid (show outV (recV T S R (x - X) (y - Y) stop t) 0 = (fop .f32 .sub (drwV T S R (x - X) (y - Y) t) (drwV T S R (x - X) (y - Y) (t - stop)), 0) by rw [show recV T S R (x - X) (y - Y) stop t = _ from if_neg hle]; rfl)
        have hgt : stop < t := by omega
        have HI2 := fun V => l03Drawdown_any T S X Y R x y (t - stop) kT kS kX kY kx ky (by omega) V
        simp only [Aq, We] at HI2
        have t38 : True := trivial
        go_enter Try.func33, Try.ntmps33
        go_wp2_with (first | (go_at_call 58; refine HA.mono ?_; clear HA; rintro e V1 ⟨rfl, hq1⟩; have d0 : V1.cell? ⟨w.heap.size, 0, none⟩ = some (.float .f32 T) := cell_of_row _ _ 0 _ _ _ ((hq1.block w.heap.size (by omega)).trans b0); have d1 : V1.cell? ⟨w.heap.size, 1, none⟩ = some (.float .f32 S) := cell_of_row _ _ 1 _ _ _ ((hq1.block w.heap.size (by omega)).trans b0); have e0 : V1.cell? ⟨w.heap.size + 1, 0, none⟩ = some (.int .i8 X) := cell_of_row _ _ 0 _ _ _ ((hq1.block (w.heap.size + 1) (by omega)).trans b1); have e1 : V1.cell? ⟨w.heap.size + 1, 1, none⟩ = some (.int .i8 Y) := cell_of_row _ _ 1 _ _ _ ((hq1.block (w.heap.size + 1) (by omega)).trans b1); have e2 : V1.cell? ⟨w.heap.size + 1, 2, none⟩ = some (.float .f32 R) := cell_of_row _ _ 2 _ _ _ ((hq1.block (w.heap.size + 1) (by omega)).trans b1); have Q1 := Lib.hid (B0.trans (hq1.mono (by omega))); have z1 := hq1.size; rw [z] at z1; clear hq1 B0 b0 b1 b2 z) | (go_at_call 67; refine (moment_is stop true cs _).mono ?_; rintro e w' ⟨rfl, rfl⟩) | (have _t := t38; go_at_call 59; refine (HI V1).mono ?_; clear t38; rintro e V2 ⟨r38, rfl, hr38, hq2⟩; have H38 := Lib.hid hr38; have d0 := (hq2.cell (p := ⟨w.heap.size, 0, none⟩) (by show w.heap.size < _; omega)).trans d0; have d1 := (hq2.cell (p := ⟨w.heap.size, 1, none⟩) (by show w.heap.size < _; omega)).trans d1; have e0 := (hq2.cell (p := ⟨w.heap.size + 1, 0, none⟩) (by show w.heap.size + 1 < _; omega)).trans e0; have e1 := (hq2.cell (p := ⟨w.heap.size + 1, 1, none⟩) (by show w.heap.size + 1 < _; omega)).trans e1; have e2 := (hq2.cell (p := ⟨w.heap.size + 1, 2, none⟩) (by show w.heap.size + 1 < _; omega)).trans e2; have Q2 := Lib.hid (Q1.out.trans (hq2.mono Q1.out.size)); clear hq2 hr38) | (go_at_call 59; refine (HI2 _).mono ?_; rintro e V3 ⟨r50, rfl, hr50, hq3⟩; have H50 := Lib.hid hr50; have Q3 := Lib.hid (Q2.out.trans (hq3.mono Q2.out.size)); clear hq3 hr50) | (have _t := H50; refine wpList_float rfl _ _ _ _ _ rfl rfl .f32 _ _ rfl rfl ?_; intro r51 n51 hr51; have H51 := Lib.hid hr51; clear hr51))
        go_ret2
        rw [HV.out]
        exact ⟨_, rfl, by rw [H51.out, H38.out, H50.out], belowN Q3.out _⟩
  · obtain rfl : m = 1 := by rw [h2]; rfl
    have HV := Lib.hid (show outV (recV T S R (x - X) (y - Y) stop t) 1 = (num .f32 0, 1) from rfl)
    clear hn h2
    go_enter Try.func33, Try.ntmps33
    go_wp2_with (first | (go_at_call 58; refine HA.mono ?_; clear HA; rintro e V1 ⟨rfl, hq1⟩; have Q1 := Lib.hid (B0.trans (hq1.mono (by omega))); clear hq1 B0 b0 b1 b2 z))
    go_ret2
    rw [HV.out]
    exact ⟨0, rfl, rfl, Q1.out⟩
  · obtain rfl : m = 2 := by rw [h2]; rfl
    have HV := Lib.hid (show outV (recV T S R (x - X) (y - Y) stop t) 2 = (num .f32 0, 2) from rfl)
    clear hn h2
    go_enter Try.func33, Try.ntmps33
    go_wp2_with (first | (go_at_call 58; refine HA.mono ?_; clear HA; rintro e V1 ⟨rfl, hq1⟩; have Q1 := Lib.hid (B0.trans (hq1.mono (by omega))); clear hq1 B0 b0 b1 b2 z))
    go_ret2
    rw [HV.out]
    exact ⟨0, rfl, rfl, Q1.out⟩

set_option maxRecDepth 100000 in
set_option maxHeartbeats 2000000 in
theorem implRecoveryAt_any (T S : Nat) (hT : T < 4294967296) (hS : S < 4294967296) (X Y : Int) (R : Nat) (hX : -128 ≤ X ∧ X ≤ 127) (hY : -128 ≤ Y ∧ Y ≤ 127) (x y stop t : Int) (w : World) : Calls Try.prog 34 #[.agg (Aq T S), .agg (We X Y R), .int .i64 x, .int .i64 y, .int .i64 stop, .int .i64 t] w (GvR (outV (recV T S R (x - X) (y - Y) stop t) (askV T S X Y R x y [stop, t])).1 (outV (recV T S R (x - X) (y - Y) stop t) (askV T S X Y R x y [stop, t])).2 w) := by
  obtain ⟨z, b0, b1, b2, b3, B0⟩ := laid4 w (.cells #[.float .f32 T, .float .f32 S] 26) (.cells #[.int .i8 X, .int .i8 Y, .float .f32 R] 30) (.cells #[.int .i64 x, .int .i64 y] 82) (.cells #[.int .i64 stop, .int .i64 t] 2)
  have HA := checkWell2_any T S X Y R hX hY x y stop t (w.heap.size + 1 + 1 + 1) 2 (w.alloc (.cells #[.float .f32 T, .float .f32 S] 26) |>.alloc (.cells #[.int .i8 X, .int .i8 Y, .float .f32 R] 30) |>.alloc (.cells #[.int .i64 x, .int .i64 y] 82) |>.alloc (.cells #[.int .i64 stop, .int .i64 t] 2)) (by omega) (rangeAt_row b3)
  obtain ⟨n, hn⟩ : ∃ n, askV T S X Y R x y [stop, t] = n := ⟨_, rfl⟩
  have hcs := ask_cases T S X Y R x y [stop, t]
  rw [hn] at HA hcs ⊢
  simp only [Aq, We, Pc] at HA ⊢
  rcases hcs with rfl | rfl | rfl
  · obtain ⟨kT, kS, kX, kY, kx, ky, kt⟩ := ask_ok hT hS hn
    have ht := kt t (by simp)
    have hs := kt stop (by simp)
    clear hn kt
    go_enter Try.func34, Try.ntmps34
    go_upto_region 5 with (go_at_call 54; refine HA.mono ?_; clear HA; rintro e V1 ⟨rfl, hq1⟩; have R0 := Lib.hid (rangeAt_below hq1 (by omega) (rangeAt_row b0)); have R1 := Lib.hid (rangeAt_below hq1 (by omega) (rangeAt_row b1)); have R2 := Lib.hid (rangeAt_below hq1 (by omega) (rangeAt_row b2)); have Q1 := Lib.hid (B0.trans (hq1.mono (by omega))); have z1 := hq1.size; rw [z] at z1; clear hq1 B0 b0 b1 b2 b3 z)
    refine wp_region_calm (ops' := regOf Try.f34 5) [0, 1, 2, 3, 4, 5, 6] [] .fin (Below (w.heap.size + 1 + 1 + 1 + 1) V1) [(0, One (.agg (We X Y R))), (1, One (.agg (Sk X Y R))), (2, One (.agg (Aq T S))), (3, One (.agg (Pc x y))), (4, One (.int .i64 t)), (5, Numv .f32 (drwV T S R (x - X) (y - Y) t)), (6, Numv .f32 (drwV T S R (x - X) (y - Y) t))] (by kernel_rfl) (by kernel_rfl) (by kernel_rfl) (by kernel_rfl) (by kernel_rfl) (by kernel_rfl) (by kernel_rfl) (by kernel_rfl) rfl ((Below.refl _ _).drew) ?_
    refine calm_load (some 30) 30 (.tmp 7) ((w.heap.size + 1)) 0 _ (by kernel_rfl) (by kernel_rfl) (by kernel_rfl) (by kernel_rfl) (by kernel_rfl) (fun w' hw' => range_kept (n := w.heap.size + 1 + 1 + 1 + 1) R1.out (by omega) _ hw') Try.underlying30 rfl (by kernel_rfl) ?_
    refine calm_call (some 31) 55 #[.agg (We X Y R)] ⟨_, rfl⟩ (by kernel_rfl) (by kernel_rfl) (by kernel_rfl) (fun _ => by kernel_rfl) (fun w' hw' => (sunk_any X Y R hX hY w').mono fun e w2 h => ⟨_, h.1, rfl, below_step hw' h.2 (by have := hw'.size; omega)⟩) ?_
    rintro _ rfl
    refine calm_load (some 32) 26 (.tmp 6) (w.heap.size) 0 _ (by kernel_rfl) (by kernel_rfl) (by kernel_rfl) (by kernel_rfl) (by kernel_rfl) (fun w' hw' => range_kept (n := w.heap.size + 1 + 1 + 1 + 1) R0.out (by omega) _ hw') Try.underlying26 rfl (by kernel_rfl) ?_
    refine calm_load (some 33) 82 (.tmp 14) ((w.heap.size + 1 + 1)) 0 _ (by kernel_rfl) (by kernel_rfl) (by kernel_rfl) (by kernel_rfl) (by kernel_rfl) (fun w' hw' => range_kept (n := w.heap.size + 1 + 1 + 1 + 1) R2.out (by omega) _ hw') Try.underlying82 rfl (by kernel_rfl) ?_
    refine calm_pure (some 34) (by kernel_rfl) (by kernel_rfl) (by kernel_rfl) (fun _ => by kernel_rfl) ?_
    refine calm_call (some 35) 56 #[.agg (Sk X Y R), .agg (Aq T S), .agg (Pc x y), .int .i64 t] (numv_ne (drwV_ex T S R (x - X) (y - Y) t)) (by kernel_rfl) (by kernel_rfl) (by kernel_rfl) (fun _ => by kernel_rfl) (fun w' hw' => (drawdownAt_any T S X Y R x y t kT kS kX kY kx ky ht w').mono fun e w2 ⟨r, he, hr, hq⟩ => ⟨_, he, ⟨r, rfl, hr⟩, below_step hw' hq (by have := hw'.size; omega)⟩) ?_
    rintro _ ⟨r35, rfl, hr35⟩
    refine calm_pureV (some 16) (.float .f32 r35) ⟨_, rfl, hr35⟩ (by kernel_rfl) (by kernel_rfl) (by kernel_rfl) (fun _ => by kernel_rfl) ?_
    rintro _ ⟨r16, rfl, hr16⟩
    refine calm_end fun w1 hw1 => plan_end (Clean.normal ?_)
    have z2 := hw1.size
    have S0 := Lib.hid (range_kept (n := w.heap.size + 1 + 1 + 1 + 1) R0.out (by omega) _ hw1)
    have S1 := Lib.hid (range_kept (n := w.heap.size + 1 + 1 + 1 + 1) R1.out (by omega) _ hw1)
    have S2 := Lib.hid (range_kept (n := w.heap.size + 1 + 1 + 1 + 1) R2.out (by omega) _ hw1)
    have Q2 := Lib.hid (Q1.out.trans (hw1.mono (by omega)))
    have hr16 := Lib.hid hr16
    clear hw1 R0 R1 R2
    simp only [Act.put, List.setIfInBounds_toArray, List.set_cons_zero, List.set_cons_succ]
    by_cases hle : t ≤ stop
    · have HV := Lib.hid (show outV (recV T S R (x - X) (y - Y) stop t) 0 = (drwV T S R (x - X) (y - Y) t, 0) by rw [show recV T S R (x - X) (y - Y) stop t = drwV T S R (x - X) (y - Y) t from if_pos hle]; rfl)
      go_wp2
      go_ret2
      rw [HV.out]
      exact ⟨_, rfl, hr16.out, Q2.out⟩
    · have HV := Lib.hid (show outV (recV T S R (x - X) (y - Y) stop t) 0 = (fop .f32 .sub (drwV T S R (x - X) (y - Y) t) (drwV T S R (x - X) (y - Y) (t - stop)), 0) by rw [show recV T S R (x - X) (y - Y) stop t = _ from if_neg hle]; rfl)
      have hwi := (IntWalk.i64_left (t - stop)).trans (IntWalk.wrap64_in (t - stop) (by omega))
      go_upto_region 8 with (fail)
      refine wp_region_calm (ops' := regOf Try.f34 8) [0, 1, 2, 3, 4, 5, 6, 7, 8, 9, 10, 11] [] .fin (Below (w.heap.size + 1 + 1 + 1 + 1) w1) [(0, Numv .f32 (drwV T S R (x - X) (y - Y) t)), (1, One (.agg (We X Y R))), (2, One (.agg (Sk X Y R))), (3, One (.agg (Aq T S))), (4, One (.agg (Pc x y))), (5, One (.int .i64 t)), (6, One (.int .i64 stop)), (7, One (.int .i64 (t - stop))), (8, Numv .f32 (drwV T S R (x - X) (y - Y) (t - stop))), (9, Numv .f32 (fop .f32 .sub (drwV T S R (x - X) (y - Y) t) (drwV T S R (x - X) (y - Y) (t - stop)))), (10, Numv .f32 (fop .f32 .sub (drwV T S R (x - X) (y - Y) t) (drwV T S R (x - X) (y - Y) (t - stop)))), (11, One (.int .i64 0))] (by kernel_rfl) (by kernel_rfl) (by kernel_rfl) (by kernel_rfl) (by kernel_rfl) (by kernel_rfl) (by kernel_rfl) (by kernel_rfl) rfl ((Below.refl _ _).drew) ?_
      refine calm_pureV (some 40) (.float .f32 r16) ⟨_, rfl, hr16.out⟩ (by kernel_rfl) (by kernel_rfl) (by kernel_rfl) (fun _ => by kernel_rfl) ?_
      rintro _ ⟨r40, rfl, hr40⟩
      refine calm_load (some 41) 30 (.tmp 7) ((w.heap.size + 1)) 0 _ (by kernel_rfl) (by kernel_rfl) (by kernel_rfl) (by kernel_rfl) (by kernel_rfl) (fun w' hw' => range_kept (n := w.heap.size + 1 + 1 + 1 + 1) S1.out (by omega) _ hw') Try.underlying30 rfl (by kernel_rfl) ?_
      refine calm_call (some 42) 55 #[.agg (We X Y R)] ⟨_, rfl⟩ (by kernel_rfl) (by kernel_rfl) (by kernel_rfl) (fun _ => by kernel_rfl) (fun w' hw' => (sunk_any X Y R hX hY w').mono fun e w2 h => ⟨_, h.1, rfl, below_step hw' h.2 (by have := hw'.size; omega)⟩) ?_
      rintro _ rfl
      refine calm_load (some 43) 26 (.tmp 6) (w.heap.size) 0 _ (by kernel_rfl) (by kernel_rfl) (by kernel_rfl) (by kernel_rfl) (by kernel_rfl) (fun w' hw' => range_kept (n := w.heap.size + 1 + 1 + 1 + 1) S0.out (by omega) _ hw') Try.underlying26 rfl (by kernel_rfl) ?_
      refine calm_load (some 44) 82 (.tmp 14) ((w.heap.size + 1 + 1)) 0 _ (by kernel_rfl) (by kernel_rfl) (by kernel_rfl) (by kernel_rfl) (by kernel_rfl) (fun w' hw' => range_kept (n := w.heap.size + 1 + 1 + 1 + 1) S2.out (by omega) _ hw') Try.underlying82 rfl (by kernel_rfl) ?_
      refine calm_pure (some 45) (by kernel_rfl) (by kernel_rfl) (by kernel_rfl) (fun _ => by kernel_rfl) ?_
      refine calm_pure (some 46) (by kernel_rfl) (by kernel_rfl) (by kernel_rfl) (fun _ => by kernel_rfl) ?_
      refine calm_pure (some 47) (by kernel_rfl) (by kernel_rfl) (by kernel_rfl) (fun _ => by rw [← hwi]; kernel_rfl) ?_
      refine calm_call (some 48) 56 #[.agg (Sk X Y R), .agg (Aq T S), .agg (Pc x y), .int .i64 (t - stop)] (numv_ne (drwV_ex T S R (x - X) (y - Y) (t - stop))) (by kernel_rfl) (by kernel_rfl) (by kernel_rfl) (fun _ => by kernel_rfl) (fun w' hw' => (drawdownAt_any T S X Y R x y (t - stop) kT kS kX kY kx ky (by omega) w').mono fun e w2 ⟨r, he, hr, hq⟩ => ⟨_, he, ⟨r, rfl, hr⟩, below_step hw' hq (by have := hw'.size; omega)⟩) ?_
      rintro _ ⟨r48, rfl, hr48⟩
      refine calm_float (some 49) .f32 .sub 24 24 (.tmp 40) (.tmp 48) (r40) (r48) (by kernel_rfl) (by kernel_rfl) (by kernel_rfl) (by kernel_rfl) rfl (by kernel_rfl) (by kernel_rfl) (fun _ n h => belowN h n) (fop_eq hr40 hr48) ?_
      intro r49 hr49
      refine calm_pureV (some 12) (.float .f32 r49) ⟨_, rfl, hr49⟩ (by kernel_rfl) (by kernel_rfl) (by kernel_rfl) (fun _ => by kernel_rfl) ?_
      rintro _ ⟨r12, rfl, hr12⟩
      refine calm_pure (some 13) (by kernel_rfl) (by kernel_rfl) (by kernel_rfl) (fun _ => by kernel_rfl) ?_
      refine calm_end fun w2 hw2 => plan_end (Clean.normal ?_)
      simp only [Act.put, List.setIfInBounds_toArray, List.set_cons_zero, List.set_cons_succ]
      go_wp2
      go_ret2
      rw [HV.out]
      exact ⟨_, rfl, hr12, Q2.out.trans (hw2.mono (by omega))⟩
  · have HV := Lib.hid (show outV (recV T S R (x - X) (y - Y) stop t) 1 = (num .f32 0, 1) from rfl)
    clear hn
    go_enter Try.func34, Try.ntmps34
    go_wp2_with (go_at_call 54; refine HA.mono ?_; clear HA; rintro e V1 ⟨rfl, hq1⟩; have Q1 := Lib.hid (B0.trans (hq1.mono (by omega))); clear hq1 B0 b0 b1 b2 b3 z)
    go_ret2
    rw [HV.out]
    exact ⟨0, rfl, rfl, Q1.out⟩
  · have HV := Lib.hid (show outV (recV T S R (x - X) (y - Y) stop t) 2 = (num .f32 0, 2) from rfl)
    clear hn
    go_enter Try.func34, Try.ntmps34
    go_wp2_with (go_at_call 54; refine HA.mono ?_; clear HA; rintro e V1 ⟨rfl, hq1⟩; have Q1 := Lib.hid (B0.trans (hq1.mono (by omega))); clear hq1 B0 b0 b1 b2 b3 z)
    go_ret2
    rw [HV.out]
    exact ⟨0, rfl, rfl, Q1.out⟩
end Go.Proofs.Ythklihenghnaeaa
