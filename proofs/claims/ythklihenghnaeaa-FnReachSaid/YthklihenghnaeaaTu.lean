/- TimeUntil, the program's and the model's, as values. No condition. -/
import Derived.Test.YthklihenghnaeaaRec
namespace Go.Proofs.Ythklihenghnaeaa
open Go Go.RowKit Ieee
set_option linter.unusedSimpArgs false
set_option linter.unusedVariables false
attribute [local go_sem] run_store_f32

/-- Is a number at least another one? -/
def geO (o : Option Nat) (L : Nat) : Bool := match o with | some b => geB b L | none => false
theorem geX {r L : Nat} {o : Option Nat} {v : Bool} (h : num .f32 r = o) (hv : geO o L = v) : (FloatKind.f32.format.order r L == some Ordering.gt || FloatKind.f32.format.order r L == some Ordering.eq) = v := by
  cases hn : nanK .f32 r
  · rw [num, hn] at h
    subst h
    exact hv
  · rw [num, hn] at h
    subst h
    have ho : FloatKind.f32.format.order r L = none := by
      rw [nanK_read] at hn
      unfold Ieee.Format.order
      cases hr : FloatKind.f32.format.read r <;> simp_all [Ieee.Datum.isNaN, Ieee.Datum.order]
    rw [ho]
    exact hv
/-- The first time, of so many from t on, at which something is so. -/
def untilT (f : Int → Bool) : Nat → Int → Int × Int
  | 0, _ => (0, 6)
  | n + 1, t => if f t = true then (t, 0) else untilT f n (t + 1)
/-- A time and a code. -/
def tuV (T S R : Nat) (X Y x y : Int) (L : Nat) (most : Int) : Int × Int := if pnB L = true then (if askV T S X Y R x y [most] = 0 then untilT (fun t => geO (drwV T S R (x - X) (y - Y) t) L) most.toNat 1 else (0, askV T S X Y R x y [most])) else (0, 1)
theorem tuV_no {T S R : Nat} {X Y x y : Int} {L : Nat} {most : Int} (h : pnB L = false) : tuV T S R X Y x y L most = (0, 1) := by simp [tuV, h]
theorem tuV_code {T S R : Nat} {X Y x y : Int} {L : Nat} {most c : Int} (h : pnB L = true) (hc : askV T S X Y R x y [most] = c) (h0 : c ≠ 0) : tuV T S R X Y x y L most = (0, c) := by simp [tuV, h, hc, h0]
theorem tuV_yes {T S R : Nat} {X Y x y : Int} {L : Nat} {m : Nat} (h : pnB L = true) (hc : askV T S X Y R x y [(m : Int)] = 0) : tuV T S R X Y x y L (m : Int) = untilT (fun t => geO (drwV T S R (x - X) (y - Y) t) L) m 1 := by simp [tuV, h, hc]
theorem below2 (a b : Array Value) (t u : TypeId) (w : World) : Below w.heap.size w ((w.alloc (.cells a t)).alloc (.cells b u)) := ((Below.refl _ _).alloc (Nat.le_refl _) _).alloc (by simp) _

set_option maxRecDepth 100000 in
set_option maxHeartbeats 2000000 in
theorem specTimeUntil_any (T S : Nat) (hT : T < 4294967296) (hS : S < 4294967296) (X Y : Int) (R : Nat) (hX : -128 ≤ X ∧ X ≤ 127) (hY : -128 ≤ Y ∧ Y ≤ 127) (x y : Int) (L : Nat) (most : Int) (w : World) : Calls Try.prog 20 #[.agg (Aq T S), .agg (We X Y R), .int .i64 x, .int .i64 y, .float .f32 L, .int .i64 most] w fun e w' => e = .returned (.tuple #[.int .i64 (tuV T S R X Y x y L most).1, .int .i64 (tuV T S R X Y x y L most).2]) ∧ Below w.heap.size w w' := by
  obtain ⟨z, b0, b1, b2, B0⟩ := laid3 w (.cells #[.float .f32 T, .float .f32 S] 26) (.cells #[.int .i8 X, .int .i8 Y, .float .f32 R] 30) (.cells #[.int .i8 X, .int .i8 Y, .float .f32 R] 30)
  have HA := l03Asked_any T S X Y R hX hY x y most (w.heap.size + 1 + 1) 1 (w.alloc (.cells #[.float .f32 T, .float .f32 S] 26) |>.alloc (.cells #[.int .i8 X, .int .i8 Y, .float .f32 R] 30) |>.alloc (.cells #[.int .i8 X, .int .i8 Y, .float .f32 R] 30)) (by omega) (rangeAt_row b2)
  cases hp : pnB L
  · rw [tuV_no hp]
    simp only [Aq, We]
    go_enter Try.func20, Try.ntmps20
    go_wp2_with ((go_at_call 57; refine (plain3s_is L false hp _).mono ?_; rintro e w' ⟨rfl, rfl⟩))
    go_ret2
    exact ⟨rfl, below2 _ _ _ _ _⟩
  · obtain ⟨c, hn⟩ : ∃ c, askV T S X Y R x y [most] = c := ⟨_, rfl⟩
    have hcs := ask_cases T S X Y R x y [most]
    rw [hn] at HA hcs
    rcases hcs with rfl | rfl | rfl
    · obtain ⟨kT, kS, kX, kY, kx, ky, kt⟩ := ask_ok hT hS hn
      have ht := kt most (by simp)
      obtain ⟨m, rfl⟩ : ∃ m : Nat, most = (m : Int) := ⟨most.toNat, by omega⟩
      rw [tuV_yes hp hn]
      obtain ⟨o, n, hV⟩ : ∃ o n, untilT (fun t => geO (drwV T S R (x - X) (y - Y) t) L) m 1 = (o, n) := ⟨_, _, rfl⟩
      rw [hV]
      clear kt hn
      simp only [Aq, We] at HA ⊢
      go_enter Try.func20, Try.ntmps20
      go_wp2_with (first | (go_at_call 58; refine HA.mono ?_; clear HA; rintro e V1 ⟨rfl, hq1⟩; have d0 : V1.cell? ⟨w.heap.size, 0, none⟩ = some (.float .f32 T) := cell_of_row _ _ 0 _ _ _ ((hq1.block w.heap.size (by omega)).trans b0); have d1 : V1.cell? ⟨w.heap.size, 1, none⟩ = some (.float .f32 S) := cell_of_row _ _ 1 _ _ _ ((hq1.block w.heap.size (by omega)).trans b0); have e0 : V1.cell? ⟨w.heap.size + 1, 0, none⟩ = some (.int .i8 X) := cell_of_row _ _ 0 _ _ _ ((hq1.block (w.heap.size + 1) (by omega)).trans b1); have e1 : V1.cell? ⟨w.heap.size + 1, 1, none⟩ = some (.int .i8 Y) := cell_of_row _ _ 1 _ _ _ ((hq1.block (w.heap.size + 1) (by omega)).trans b1); have e2 : V1.cell? ⟨w.heap.size + 1, 2, none⟩ = some (.float .f32 R) := cell_of_row _ _ 2 _ _ _ ((hq1.block (w.heap.size + 1) (by omega)).trans b1); have Q1 := Lib.hid (B0.trans (hq1.mono (by omega))); have z1 := hq1.size; rw [z] at z1; clear hq1 B0 b0 b1 b2 z) | (go_at_call 57; refine (plain3s_is L true hp _).mono ?_; rintro e w' ⟨rfl, rfl⟩))
      go_loopw [15] (fun i wr => ∃ k : Nat, k ≤ m ∧ i = .int .i64 ((k : Int) + 1) ∧ untilT (fun t => geO (drwV T S R (x - X) (y - Y) t) L) (m - k) ((k : Int) + 1) = (o, n) ∧ Hid (Below V1.heap.size V1 wr)) (fun i _ => m + 1 - (intOf i).toNat)
      case atStart => exact ⟨0, by omega, rfl, hV, Lib.hid (Below.refl _ _)⟩
      case round =>
        obtain ⟨k, hk, rfl, hU, hQ⟩ := hrel
        by_cases hlt : k < m
        · obtain ⟨j, hj⟩ : ∃ j, m - k = j + 1 := ⟨m - k - 1, by omega⟩
          rw [hj, untilT] at hU
          have HI := fun V => l03Drawdown_any T S X Y R x y ((k : Int) + 1) kT kS kX kY kx ky (by omega) V
          simp only [Aq, We] at HI
          have d0 := (hQ.out.cell (p := ⟨w.heap.size, 0, none⟩) (by show w.heap.size < _; omega)).trans d0
          have d1 := (hQ.out.cell (p := ⟨w.heap.size, 1, none⟩) (by show w.heap.size < _; omega)).trans d1
          have e0 := (hQ.out.cell (p := ⟨w.heap.size + 1, 0, none⟩) (by show w.heap.size + 1 < _; omega)).trans e0
          have e1 := (hQ.out.cell (p := ⟨w.heap.size + 1, 1, none⟩) (by show w.heap.size + 1 < _; omega)).trans e1
          have e2 := (hQ.out.cell (p := ⟨w.heap.size + 1, 2, none⟩) (by show w.heap.size + 1 < _; omega)).trans e2
          have hle : (k : Int) + 1 ≤ (m : Int) := by omega
          cases hf : geO (drwV T S R (x - X) (y - Y) ((k : Int) + 1)) L
          · have HU := Lib.hid (show untilT (fun t => geO (drwV T S R (x - X) (y - Y) t) L) j ((k : Int) + 1 + 1) = (o, n) by rw [← hU]; simp [hf])
            clear hU
            go_wp2_with ((go_at_call 59; refine (HI wr).mono ?_; rintro e V2 ⟨r39, rfl, hr39, hq2⟩; have hge := geX hr39 hf; have Q2 := Lib.hid (hQ.out.trans (hq2.mono hQ.out.size)); clear hq2 hr39))
            go_roundw
            case rel => exact ⟨k + 1, by omega, by go_num, by rw [show m - (k + 1) = j by omega]; exact HU.out, Q2⟩
            case measure => simp [intOf]; omega
          · have HU := Lib.hid (show ((k : Int) + 1, (0 : Int)) = (o, n) by rw [← hU]; simp [hf])
            clear hU
            go_wp2_with ((go_at_call 59; refine (HI wr).mono ?_; rintro e V2 ⟨r39, rfl, hr39, hq2⟩; have hge := geX hr39 hf; have Q2 := Lib.hid (hQ.out.trans (hq2.mono hQ.out.size)); clear hq2 hr39))
            go_ret2
            obtain ⟨h1, h2⟩ := Prod.mk.inj HU.out
            subst h1
            subst h2
            exact ⟨rfl, Q1.out.trans (Q2.out.mono (by omega))⟩
        · obtain rfl : k = m := by omega
          rw [Nat.sub_self, untilT] at hU
          have HU := Lib.hid hU
          have hle : ¬ (k : Int) + 1 ≤ (k : Int) := by omega
          clear hU
          go_wp2
          go_ret2
          obtain ⟨h1, h2⟩ := Prod.mk.inj HU.out
          subst h1
          subst h2
          exact ⟨rfl, Q1.out.trans (hQ.out.mono (by omega))⟩
    · rw [tuV_code hp hn (by decide)]
      clear hn
      simp only [Aq, We] at HA ⊢
      go_enter Try.func20, Try.ntmps20
      go_wp2_with (first | (go_at_call 58; refine HA.mono ?_; clear HA; rintro e V1 ⟨rfl, hq1⟩; have Q1 := Lib.hid (B0.trans (hq1.mono (by omega))); clear hq1 B0 b0 b1 b2 z) | (go_at_call 57; refine (plain3s_is L true hp _).mono ?_; rintro e w' ⟨rfl, rfl⟩))
      go_ret2
      exact ⟨rfl, Q1.out⟩
    · rw [tuV_code hp hn (by decide)]
      clear hn
      simp only [Aq, We] at HA ⊢
      go_enter Try.func20, Try.ntmps20
      go_wp2_with (first | (go_at_call 58; refine HA.mono ?_; clear HA; rintro e V1 ⟨rfl, hq1⟩; have Q1 := Lib.hid (B0.trans (hq1.mono (by omega))); clear hq1 B0 b0 b1 b2 z) | (go_at_call 57; refine (plain3s_is L true hp _).mono ?_; rintro e w' ⟨rfl, rfl⟩))
      go_ret2
      exact ⟨rfl, Q1.out⟩

set_option maxRecDepth 100000 in
set_option maxHeartbeats 2000000 in
theorem implTimeUntil_any (T S : Nat) (hT : T < 4294967296) (hS : S < 4294967296) (X Y : Int) (R : Nat) (hX : -128 ≤ X ∧ X ≤ 127) (hY : -128 ≤ Y ∧ Y ≤ 127) (x y : Int) (L : Nat) (most : Int) (w : World) : Calls Try.prog 19 #[.agg (Aq T S), .agg (We X Y R), .int .i64 x, .int .i64 y, .float .f32 L, .int .i64 most] w fun e w' => e = .returned (.tuple #[.int .i64 (tuV T S R X Y x y L most).1, .int .i64 (tuV T S R X Y x y L most).2]) ∧ Below w.heap.size w w' := by
  obtain ⟨z, b0, b1, b2, b3, B0⟩ := laid4 w (.cells #[.float .f32 T, .float .f32 S] 26) (.cells #[.int .i8 X, .int .i8 Y, .float .f32 R] 30) (.cells #[.int .i64 x, .int .i64 y] 82) (.cells #[.int .i64 most] 2)
  have HA := checkWell_any T S X Y R hX hY x y most (w.heap.size + 1 + 1 + 1) 1 (w.alloc (.cells #[.float .f32 T, .float .f32 S] 26) |>.alloc (.cells #[.int .i8 X, .int .i8 Y, .float .f32 R] 30) |>.alloc (.cells #[.int .i64 x, .int .i64 y] 82) |>.alloc (.cells #[.int .i64 most] 2)) (by omega) (rangeAt_row b3)
  cases hp : pnB L
  · rw [tuV_no hp]
    simp only [Aq, We]
    go_enter Try.func19, Try.ntmps19
    go_wp2_with ((go_at_call 53; refine (plain3i_is L false hp _).mono ?_; rintro e w' ⟨rfl, rfl⟩))
    go_ret2
    exact ⟨rfl, below2 _ _ _ _ _⟩
  · obtain ⟨c, hn⟩ : ∃ c, askV T S X Y R x y [most] = c := ⟨_, rfl⟩
    have hcs := ask_cases T S X Y R x y [most]
    rw [hn] at HA hcs
    rcases hcs with rfl | rfl | rfl
    · obtain ⟨kT, kS, kX, kY, kx, ky, kt⟩ := ask_ok hT hS hn
      have ht := kt most (by simp)
      obtain ⟨m, rfl⟩ : ∃ m : Nat, most = (m : Int) := ⟨most.toNat, by omega⟩
      rw [tuV_yes hp hn]
      obtain ⟨o, n, hV⟩ : ∃ o n, untilT (fun t => geO (drwV T S R (x - X) (y - Y) t) L) m 1 = (o, n) := ⟨_, _, rfl⟩
      rw [hV]
      clear kt hn
      simp only [Aq, We, Pc] at HA ⊢
      go_enter Try.func19, Try.ntmps19
      go_wp2_with (first | (go_at_call 54; refine HA.mono ?_; clear HA; rintro e V1 ⟨rfl, hq1⟩; have R0 := Lib.hid (rangeAt_below hq1 (by omega) (rangeAt_row b0)); have R1 := Lib.hid (rangeAt_below hq1 (by omega) (rangeAt_row b1)); have R2 := Lib.hid (rangeAt_below hq1 (by omega) (rangeAt_row b2)); have Q1 := Lib.hid (B0.trans (hq1.mono (by omega))); have z1 := hq1.size; rw [z] at z1; clear hq1 B0 b0 b1 b2 b3 z) | (go_at_call 53; refine (plain3i_is L true hp _).mono ?_; rintro e w' ⟨rfl, rfl⟩))
      go_loopw [16] (fun i wr => ∃ k : Nat, k ≤ m ∧ i = .int .i64 ((k : Int) + 1) ∧ untilT (fun t => geO (drwV T S R (x - X) (y - Y) t) L) (m - k) ((k : Int) + 1) = (o, n) ∧ Hid (Below (w.heap.size + 1 + 1 + 1 + 1) V1 wr)) (fun i _ => m + 1 - (intOf i).toNat)
      case atStart => exact ⟨0, by omega, rfl, hV, Lib.hid (Below.refl _ _)⟩
      case round =>
        obtain ⟨k, hk, rfl, hU, hQ⟩ := hrel
        by_cases hlt : k < m
        · obtain ⟨j, hj⟩ : ∃ j, m - k = j + 1 := ⟨m - k - 1, by omega⟩
          rw [hj, untilT] at hU
          have S0 := Lib.hid (range_kept (n := w.heap.size + 1 + 1 + 1 + 1) R0.out (by omega) _ hQ.out)
          have S1 := Lib.hid (range_kept (n := w.heap.size + 1 + 1 + 1 + 1) R1.out (by omega) _ hQ.out)
          have S2 := Lib.hid (range_kept (n := w.heap.size + 1 + 1 + 1 + 1) R2.out (by omega) _ hQ.out)
          have zr := hQ.out.size
          have hle : (k : Int) + 1 ≤ (m : Int) := by omega
          cases hf : geO (drwV T S R (x - X) (y - Y) ((k : Int) + 1)) L
          · have HU := Lib.hid (show untilT (fun t => geO (drwV T S R (x - X) (y - Y) t) L) j ((k : Int) + 1 + 1) = (o, n) by rw [← hU]; simp [hf])
            clear hU
            go_upto_region 10 with (fail)
            refine wp_region_calm (ops' := regOf Try.f19 10) [0, 1, 2, 3, 4, 5, 6, 7] [] .fin (Below (w.heap.size + 1 + 1 + 1 + 1) wr) [(0, One (.agg (We X Y R))), (1, One (.agg (Sk X Y R))), (2, One (.agg (Aq T S))), (3, One (.agg (Pc x y))), (4, One (.int .i64 ((k : Int) + 1))), (5, Numv .f32 (drwV T S R (x - X) (y - Y) ((k : Int) + 1))), (6, One (.float .f32 L)), (7, One (.bool false))] (by kernel_rfl) (by kernel_rfl) (by kernel_rfl) (by kernel_rfl) (by kernel_rfl) (by kernel_rfl) (by kernel_rfl) (by kernel_rfl) rfl ((Below.refl _ _).drew) ?_
            refine calm_load (some 37) 30 (.tmp 7) ((w.heap.size + 1)) 0 _ (by kernel_rfl) (by kernel_rfl) (by kernel_rfl) (by kernel_rfl) (by kernel_rfl) (fun w' hw' => range_kept (n := w.heap.size + 1 + 1 + 1 + 1) S1.out (by omega) _ hw') Try.underlying30 rfl (by kernel_rfl) ?_
            refine calm_call (some 38) 55 #[.agg (We X Y R)] ⟨_, rfl⟩ (by kernel_rfl) (by kernel_rfl) (by kernel_rfl) (fun _ => by kernel_rfl) (fun w' hw' => (sunk_any X Y R hX hY w').mono fun e w2 h => ⟨_, h.1, rfl, below_step hw' h.2 (by have := hw'.size; omega)⟩) ?_
            rintro _ rfl
            refine calm_load (some 39) 26 (.tmp 6) (w.heap.size) 0 _ (by kernel_rfl) (by kernel_rfl) (by kernel_rfl) (by kernel_rfl) (by kernel_rfl) (fun w' hw' => range_kept (n := w.heap.size + 1 + 1 + 1 + 1) S0.out (by omega) _ hw') Try.underlying26 rfl (by kernel_rfl) ?_
            refine calm_load (some 40) 82 (.tmp 14) ((w.heap.size + 1 + 1)) 0 _ (by kernel_rfl) (by kernel_rfl) (by kernel_rfl) (by kernel_rfl) (by kernel_rfl) (fun w' hw' => range_kept (n := w.heap.size + 1 + 1 + 1 + 1) S2.out (by omega) _ hw') Try.underlying82 rfl (by kernel_rfl) ?_
            refine calm_pure (some 41) (by kernel_rfl) (by kernel_rfl) (by kernel_rfl) (fun _ => by kernel_rfl) ?_
            refine calm_call (some 42) 56 #[.agg (Sk X Y R), .agg (Aq T S), .agg (Pc x y), .int .i64 ((k : Int) + 1)] (numv_ne (drwV_ex T S R (x - X) (y - Y) ((k : Int) + 1))) (by kernel_rfl) (by kernel_rfl) (by kernel_rfl) (fun _ => by kernel_rfl) (fun w' hw' => (drawdownAt_any T S X Y R x y ((k : Int) + 1) kT kS kX kY kx ky (by omega) w').mono fun e w2 ⟨r, he, hr, hq⟩ => ⟨_, he, ⟨r, rfl, hr⟩, below_step hw' hq (by have := hw'.size; omega)⟩) ?_
            rintro _ ⟨r42, rfl, hr42⟩
            refine calm_pure (some 43) (by kernel_rfl) (by kernel_rfl) (by kernel_rfl) (fun _ => by kernel_rfl) ?_
            refine calm_pure (some 44) (by kernel_rfl) (by kernel_rfl) (by kernel_rfl) (fun _ => by rw [← (geX hr42 hf)]; kernel_rfl) ?_
            refine calm_end fun w2 hw2 => plan_end (Clean.normal ?_)
            have Q2 := Lib.hid (hQ.out.trans (hw2.mono (by omega)))
            simp only [Act.put, List.setIfInBounds_toArray, List.set_cons_zero, List.set_cons_succ]
            go_wp2
            go_roundw
            case rel => exact ⟨k + 1, by omega, by go_num, by rw [show m - (k + 1) = j by omega]; exact HU.out, Q2⟩
            case measure => simp [intOf]; omega
          · have HU := Lib.hid (show ((k : Int) + 1, (0 : Int)) = (o, n) by rw [← hU]; simp [hf])
            clear hU
            go_upto_region 10 with (fail)
            refine wp_region_calm (ops' := regOf Try.f19 10) [0, 1, 2, 3, 4, 5, 6, 7] [] .fin (Below (w.heap.size + 1 + 1 + 1 + 1) wr) [(0, One (.agg (We X Y R))), (1, One (.agg (Sk X Y R))), (2, One (.agg (Aq T S))), (3, One (.agg (Pc x y))), (4, One (.int .i64 ((k : Int) + 1))), (5, Numv .f32 (drwV T S R (x - X) (y - Y) ((k : Int) + 1))), (6, One (.float .f32 L)), (7, One (.bool true))] (by kernel_rfl) (by kernel_rfl) (by kernel_rfl) (by kernel_rfl) (by kernel_rfl) (by kernel_rfl) (by kernel_rfl) (by kernel_rfl) rfl ((Below.refl _ _).drew) ?_
            refine calm_load (some 37) 30 (.tmp 7) ((w.heap.size + 1)) 0 _ (by kernel_rfl) (by kernel_rfl) (by kernel_rfl) (by kernel_rfl) (by kernel_rfl) (fun w' hw' => range_kept (n := w.heap.size + 1 + 1 + 1 + 1) S1.out (by omega) _ hw') Try.underlying30 rfl (by kernel_rfl) ?_
            refine calm_call (some 38) 55 #[.agg (We X Y R)] ⟨_, rfl⟩ (by kernel_rfl) (by kernel_rfl) (by kernel_rfl) (fun _ => by kernel_rfl) (fun w' hw' => (sunk_any X Y R hX hY w').mono fun e w2 h => ⟨_, h.1, rfl, below_step hw' h.2 (by have := hw'.size; omega)⟩) ?_
            rintro _ rfl
            refine calm_load (some 39) 26 (.tmp 6) (w.heap.size) 0 _ (by kernel_rfl) (by kernel_rfl) (by kernel_rfl) (by kernel_rfl) (by kernel_rfl) (fun w' hw' => range_kept (n := w.heap.size + 1 + 1 + 1 + 1) S0.out (by omega) _ hw') Try.underlying26 rfl (by kernel_rfl) ?_
            refine calm_load (some 40) 82 (.tmp 14) ((w.heap.size + 1 + 1)) 0 _ (by kernel_rfl) (by kernel_rfl) (by kernel_rfl) (by kernel_rfl) (by kernel_rfl) (fun w' hw' => range_kept (n := w.heap.size + 1 + 1 + 1 + 1) S2.out (by omega) _ hw') Try.underlying82 rfl (by kernel_rfl) ?_
            refine calm_pure (some 41) (by kernel_rfl) (by kernel_rfl) (by kernel_rfl) (fun _ => by kernel_rfl) ?_
            refine calm_call (some 42) 56 #[.agg (Sk X Y R), .agg (Aq T S), .agg (Pc x y), .int .i64 ((k : Int) + 1)] (numv_ne (drwV_ex T S R (x - X) (y - Y) ((k : Int) + 1))) (by kernel_rfl) (by kernel_rfl) (by kernel_rfl) (fun _ => by kernel_rfl) (fun w' hw' => (drawdownAt_any T S X Y R x y ((k : Int) + 1) kT kS kX kY kx ky (by omega) w').mono fun e w2 ⟨r, he, hr, hq⟩ => ⟨_, he, ⟨r, rfl, hr⟩, below_step hw' hq (by have := hw'.size; omega)⟩) ?_
            rintro _ ⟨r42, rfl, hr42⟩
            refine calm_pure (some 43) (by kernel_rfl) (by kernel_rfl) (by kernel_rfl) (fun _ => by kernel_rfl) ?_
            refine calm_pure (some 44) (by kernel_rfl) (by kernel_rfl) (by kernel_rfl) (fun _ => by rw [← (geX hr42 hf)]; kernel_rfl) ?_
            refine calm_end fun w2 hw2 => plan_end (Clean.normal ?_)
            have Q2 := Lib.hid (Q1.out.trans ((hQ.out.mono (by omega)).trans (hw2.mono (by omega))))
            simp only [Act.put, List.setIfInBounds_toArray, List.set_cons_zero, List.set_cons_succ]
            go_wp2
            go_ret2
            obtain ⟨h1, h2⟩ := Prod.mk.inj HU.out
            subst h1
            subst h2
            exact ⟨rfl, Q2.out⟩
        · obtain rfl : k = m := by omega
          rw [Nat.sub_self, untilT] at hU
          have HU := Lib.hid hU
          have hle : ¬ (k : Int) + 1 ≤ (k : Int) := by omega
          clear hU
          go_wp2
          go_ret2
          obtain ⟨h1, h2⟩ := Prod.mk.inj HU.out
          subst h1
          subst h2
          exact ⟨rfl, Q1.out.trans (hQ.out.mono (by omega))⟩
    · rw [tuV_code hp hn (by decide)]
      clear hn
      simp only [Aq, We, Pc] at HA ⊢
      go_enter Try.func19, Try.ntmps19
      go_wp2_with (first | (go_at_call 54; refine HA.mono ?_; clear HA; rintro e V1 ⟨rfl, hq1⟩; have Q1 := Lib.hid (B0.trans (hq1.mono (by omega))); clear hq1 B0 b0 b1 b2 b3 z) | (go_at_call 53; refine (plain3i_is L true hp _).mono ?_; rintro e w' ⟨rfl, rfl⟩))
      go_ret2
      exact ⟨rfl, Q1.out⟩
    · rw [tuV_code hp hn (by decide)]
      clear hn
      simp only [Aq, We, Pc] at HA ⊢
      go_enter Try.func19, Try.ntmps19
      go_wp2_with (first | (go_at_call 54; refine HA.mono ?_; clear HA; rintro e V1 ⟨rfl, hq1⟩; have Q1 := Lib.hid (B0.trans (hq1.mono (by omega))); clear hq1 B0 b0 b1 b2 b3 z) | (go_at_call 53; refine (plain3i_is L true hp _).mono ?_; rintro e w' ⟨rfl, rfl⟩))
      go_ret2
      exact ⟨rfl, Q1.out⟩
end Go.Proofs.Ythklihenghnaeaa
