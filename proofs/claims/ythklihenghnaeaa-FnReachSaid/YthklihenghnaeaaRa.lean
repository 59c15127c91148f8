/- RadiusOf, the program's and the model's, as values. No condition. -/
import Derived.Test.YthklihenghnaeaaTu
namespace Go.Proofs.Ythklihenghnaeaa
open Go Go.RowKit Ieee
set_option linter.unusedSimpArgs false
set_option linter.unusedVariables false
attribute [local go_sem] run_store_f32

/-- How many, of at most so many, from x on, one behind the other, are so. -/
def radN (f : Int → Bool) : Nat → Int → Nat
  | 0, _ => 0
  | n + 1, x => if f x = true then radN f n (x + 1) + 1 else 0
def raV (c : Nat) : Int × Int := if c = 0 then (0, 6) else ((c : Int) - 1, 0)
def radV (T S R : Nat) (X Y t : Int) (L : Nat) : Int × Int := if pnB L = true then (if askV T S X Y R 0 0 [t] = 0 then raV (radN (fun x => geO (drwV T S R (x - X) (Y - Y) t) L) (101 - X).toNat X) else (0, askV T S X Y R 0 0 [t])) else (0, 1)
theorem radV_no {T S R : Nat} {X Y t : Int} {L : Nat} (h : pnB L = false) : radV T S R X Y t L = (0, 1) := by simp [radV, h]
theorem radV_code {T S R : Nat} {X Y t : Int} {L : Nat} {c : Int} (h : pnB L = true) (hc : askV T S X Y R 0 0 [t] = c) (h0 : c ≠ 0) : radV T S R X Y t L = (0, c) := by simp [radV, h, hc, h0]
theorem radV_yes {T S R : Nat} {X Y t : Int} {L : Nat} {m : Nat} (h : pnB L = true) (hc : askV T S X Y R 0 0 [t] = 0) (hm : (101 - X).toNat = m) : radV T S R X Y t L = raV (radN (fun x => geO (drwV T S R (x - X) (Y - Y) t) L) m X) := by simp [radV, h, hc, hm]
theorem ask_own (T S : Nat) (X Y : Int) (R : Nat) (ts : List Int) : askV T S X Y R X Y ts = askV T S X Y R 0 0 ts := by
  unfold askV
  cases h : (aqB T S && weB X Y R)
  · simp
  · simp only [Bool.and_eq_true, weB] at h
    simp [h.2.1.1, h.2.1.2, show plB 0 = true by decide]
theorem i64z (a b : Int) (h : a = b) : Value.int .i64 a = .int .i64 b := by rw [h]

set_option maxRecDepth 100000 in
set_option maxHeartbeats 2000000 in
theorem east3_any (x y : Int) (hx : -1000 ≤ x ∧ x ≤ 1000) (w : World) : Calls Try.prog 61 #[.agg #[.int .i64 x, .int .i64 y]] w fun e w' => e = .returned (.agg #[.int .i64 (x + 1), .int .i64 y]) ∧ w' = (w.alloc (.cells #[.int .i64 x, .int .i64 y] 82)).alloc (.cells #[.int .i64 (x + 1), .int .i64 y] 82) := by
  go_enter Try.func61, Try.ntmps61
  go_wp2
  exact bodyPost_ret (v := .agg #[.int .i64 (x + 1), .int .i64 y]) (by simp [results, Try.results61, go_sem]) rfl ⟨rfl, rfl⟩

set_option maxRecDepth 100000 in
set_option maxHeartbeats 2000000 in
theorem specRadiusOf_any (T S : Nat) (hT : T < 4294967296) (hS : S < 4294967296) (X Y : Int) (R : Nat) (hX : -128 ≤ X ∧ X ≤ 127) (hY : -128 ≤ Y ∧ Y ≤ 127) (t : Int) (L : Nat) (w : World) : Calls Try.prog 24 #[.agg (Aq T S), .agg (We X Y R), .int .i64 t, .float .f32 L] w fun e w' => e = .returned (.tuple #[.int .i64 (radV T S R X Y t L).1, .int .i64 (radV T S R X Y t L).2]) ∧ Below w.heap.size w w' := by
  obtain ⟨z, b0, b1, b2, B0⟩ := laid3 w (.cells #[.float .f32 T, .float .f32 S] 26) (.cells #[.int .i8 X, .int .i8 Y, .float .f32 R] 30) (.cells #[.int .i8 X, .int .i8 Y, .float .f32 R] 30)
  have HA := l03Asked_any T S X Y R hX hY 0 0 t (w.heap.size + 1 + 1) 1 (w.alloc (.cells #[.float .f32 T, .float .f32 S] 26) |>.alloc (.cells #[.int .i8 X, .int .i8 Y, .float .f32 R] 30) |>.alloc (.cells #[.int .i8 X, .int .i8 Y, .float .f32 R] 30)) (by omega) (rangeAt_row b2)
  cases hp : pnB L
  · rw [radV_no hp]
    simp only [Aq, We]
    go_enter Try.func24, Try.ntmps24
    go_wp2_with ((go_at_call 57; refine (plain3s_is L false hp _).mono ?_; rintro e w' ⟨rfl, rfl⟩))
    go_ret2
    exact ⟨rfl, below2 _ _ _ _ _⟩
  · obtain ⟨c, hn⟩ : ∃ c, askV T S X Y R 0 0 [t] = c := ⟨_, rfl⟩
    have hcs := ask_cases T S X Y R 0 0 [t]
    rw [hn] at HA hcs
    rcases hcs with rfl | rfl | rfl
    · obtain ⟨kT, kS, kX, kY, kx, ky, kt⟩ := ask_ok hT hS hn
      have ht := kt t (by simp)
      obtain ⟨m, hm⟩ : ∃ m : Nat, (101 - X).toNat = m := ⟨_, rfl⟩
      rw [radV_yes hp hn hm]
      obtain ⟨c, hC⟩ : ∃ c, radN (fun x => geO (drwV T S R (x - X) (Y - Y) t) L) m X = c := ⟨_, rfl⟩
      rw [hC]
      clear kt hn
      simp only [Aq, We] at HA ⊢
      go_enter Try.func24, Try.ntmps24
      go_wp2_with (first | (go_at_call 58; refine HA.mono ?_; clear HA; rintro e V1 ⟨rfl, hq1⟩; have d0 : V1.cell? ⟨w.heap.size, 0, none⟩ = some (.float .f32 T) := cell_of_row _ _ 0 _ _ _ ((hq1.block w.heap.size (by omega)).trans b0); have d1 : V1.cell? ⟨w.heap.size, 1, none⟩ = some (.float .f32 S) := cell_of_row _ _ 1 _ _ _ ((hq1.block w.heap.size (by omega)).trans b0); have e0 : V1.cell? ⟨w.heap.size + 1, 0, none⟩ = some (.int .i8 X) := cell_of_row _ _ 0 _ _ _ ((hq1.block (w.heap.size + 1) (by omega)).trans b1); have e1 : V1.cell? ⟨w.heap.size + 1, 1, none⟩ = some (.int .i8 Y) := cell_of_row _ _ 1 _ _ _ ((hq1.block (w.heap.size + 1) (by omega)).trans b1); have e2 : V1.cell? ⟨w.heap.size + 1, 2, none⟩ = some (.float .f32 R) := cell_of_row _ _ 2 _ _ _ ((hq1.block (w.heap.size + 1) (by omega)).trans b1); have Q1 := Lib.hid (B0.trans (hq1.mono (by omega))); have z1 := hq1.size; rw [z] at z1; clear hq1 B0 b0 b1 b2 z) | (go_at_call 57; refine (plain3s_is L true hp _).mono ?_; rintro e w' ⟨rfl, rfl⟩))
      go_loopw [11] (fun i wr => ∃ k : Nat, k ≤ m ∧ i = .int .i64 (X + (k : Int)) ∧ radN (fun x => geO (drwV T S R (x - X) (Y - Y) t) L) (m - k) (X + (k : Int)) + k = c ∧ Hid (Below V1.heap.size V1 wr)) (fun i _ => 101 - intOf i |>.toNat)
      case atStart => exact ⟨0, by omega, i64z _ _ (by omega), by rw [show X + ((0 : Nat) : Int) = X by omega]; simpa using hC, Lib.hid (Below.refl _ _)⟩
      case round =>
        obtain ⟨k, hk, rfl, hU, hQ⟩ := hrel
        have zr := hQ.out.size
        have d0 := (hQ.out.cell (p := ⟨w.heap.size, 0, none⟩) (by show w.heap.size < _; omega)).trans d0
        have d1 := (hQ.out.cell (p := ⟨w.heap.size, 1, none⟩) (by show w.heap.size < _; omega)).trans d1
        have e0 := (hQ.out.cell (p := ⟨w.heap.size + 1, 0, none⟩) (by show w.heap.size + 1 < _; omega)).trans e0
        have e1 := (hQ.out.cell (p := ⟨w.heap.size + 1, 1, none⟩) (by show w.heap.size + 1 < _; omega)).trans e1
        have e2 := (hQ.out.cell (p := ⟨w.heap.size + 1, 2, none⟩) (by show w.heap.size + 1 < _; omega)).trans e2
        by_cases hlt : k < m
        · have hle : X + (k : Int) ≤ 100 := by omega
          obtain ⟨j, hj⟩ : ∃ j, m - k = j + 1 := ⟨m - k - 1, by omega⟩
          rw [hj, radN] at hU
          have HI := fun V => l03Drawdown_any T S X Y R (X + (k : Int)) Y t kT kS kX kY (by omega) kY ht V
          simp only [Aq, We] at HI
          cases hf : geO (drwV T S R (X + (k : Int) - X) (Y - Y) t) L
          · have HU := Lib.hid (show k = c by rw [hf] at hU; simpa using hU)
            clear hU
            by_cases hk0 : k = 0
            · subst hk0
              have HC := Lib.hid (show c = 0 from HU.out.symm)
              have hz0 : X + ((0 : Nat) : Int) = X := by omega
              simp only [hz0] at HI hf
              go_wp2_with ((go_at_call 59; refine (HI wr).mono ?_; rintro e V2 ⟨r39, rfl, hr39, hq2⟩; have hge := geX hr39 hf; have zq2 := hq2.size; have d0 := (hq2.cell (p := ⟨w.heap.size, 0, none⟩) (by show w.heap.size < _; omega)).trans d0; have d1 := (hq2.cell (p := ⟨w.heap.size, 1, none⟩) (by show w.heap.size < _; omega)).trans d1; have e0 := (hq2.cell (p := ⟨w.heap.size + 1, 0, none⟩) (by show w.heap.size + 1 < _; omega)).trans e0; have e1 := (hq2.cell (p := ⟨w.heap.size + 1, 1, none⟩) (by show w.heap.size + 1 < _; omega)).trans e1; have e2 := (hq2.cell (p := ⟨w.heap.size + 1, 2, none⟩) (by show w.heap.size + 1 < _; omega)).trans e2; have Q2 := Lib.hid (hQ.out.trans (hq2.mono hQ.out.size)); clear hq2 hr39))
              go_ret2
              exact ⟨by rw [HC.out]; rfl, Q1.out.trans (Q2.out.mono (by omega))⟩
            · have hz0 : ¬ X + (k : Int) = X := by omega
              have hz1 : X + (k : Int) - 1 - X = (k : Int) - 1 := by omega
              go_wp2_with ((go_at_call 59; refine (HI wr).mono ?_; rintro e V2 ⟨r39, rfl, hr39, hq2⟩; have hge := geX hr39 hf; have zq2 := hq2.size; have d0 := (hq2.cell (p := ⟨w.heap.size, 0, none⟩) (by show w.heap.size < _; omega)).trans d0; have d1 := (hq2.cell (p := ⟨w.heap.size, 1, none⟩) (by show w.heap.size < _; omega)).trans d1; have e0 := (hq2.cell (p := ⟨w.heap.size + 1, 0, none⟩) (by show w.heap.size + 1 < _; omega)).trans e0; have e1 := (hq2.cell (p := ⟨w.heap.size + 1, 1, none⟩) (by show w.heap.size + 1 < _; omega)).trans e1; have e2 := (hq2.cell (p := ⟨w.heap.size + 1, 2, none⟩) (by show w.heap.size + 1 < _; omega)).trans e2; have Q2 := Lib.hid (hQ.out.trans (hq2.mono hQ.out.size)); clear hq2 hr39))
              go_ret2
              exact ⟨by rw [← HU.out]; simp only [raV, if_neg hk0]; rfl, Q1.out.trans (Q2.out.mono (by omega))⟩
          · have HU := Lib.hid (show radN (fun x => geO (drwV T S R (x - X) (Y - Y) t) L) j (X + (k : Int) + 1) + 1 + k = c by rw [hf, if_pos rfl] at hU; exact hU)
            clear hU
            go_wp2_with ((go_at_call 59; refine (HI wr).mono ?_; rintro e V2 ⟨r39, rfl, hr39, hq2⟩; have hge := geX hr39 hf; have zq2 := hq2.size; have d0 := (hq2.cell (p := ⟨w.heap.size, 0, none⟩) (by show w.heap.size < _; omega)).trans d0; have d1 := (hq2.cell (p := ⟨w.heap.size, 1, none⟩) (by show w.heap.size < _; omega)).trans d1; have e0 := (hq2.cell (p := ⟨w.heap.size + 1, 0, none⟩) (by show w.heap.size + 1 < _; omega)).trans e0; have e1 := (hq2.cell (p := ⟨w.heap.size + 1, 1, none⟩) (by show w.heap.size + 1 < _; omega)).trans e1; have e2 := (hq2.cell (p := ⟨w.heap.size + 1, 2, none⟩) (by show w.heap.size + 1 < _; omega)).trans e2; have Q2 := Lib.hid (hQ.out.trans (hq2.mono hQ.out.size)); clear hq2 hr39))
            go_roundw
            case rel => exact ⟨k + 1, by omega, i64z _ _ (by omega), by rw [show m - (k + 1) = j by omega, show X + ((k + 1 : Nat) : Int) = X + (k : Int) + 1 by omega]; have := HU.out; omega, Q2⟩
            case measure => simp [intOf]; omega
        · obtain rfl : k = m := by omega
          rw [Nat.sub_self, radN] at hU
          have HU := Lib.hid (show k = c by omega)
          clear hU
          have hle : ¬ X + (k : Int) ≤ 100 := by omega
          by_cases hk0 : k = 0
          · exfalso; omega
          · have hz0 : ¬ X + (k : Int) = X := by omega
            have hz1 : X + (k : Int) - 1 - X = (k : Int) - 1 := by omega
            go_wp2
            go_ret2
            exact ⟨by rw [← HU.out]; simp only [raV, if_neg hk0]; rfl, Q1.out.trans (hQ.out.mono (by omega))⟩
    · rw [radV_code hp hn (by decide)]
      clear hn
      simp only [Aq, We] at HA ⊢
      go_enter Try.func24, Try.ntmps24
      go_wp2_with (first | (go_at_call 58; refine HA.mono ?_; clear HA; rintro e V1 ⟨rfl, hq1⟩; have Q1 := Lib.hid (B0.trans (hq1.mono (by omega))); clear hq1 B0 b0 b1 b2 z) | (go_at_call 57; refine (plain3s_is L true hp _).mono ?_; rintro e w' ⟨rfl, rfl⟩))
      go_ret2
      exact ⟨rfl, Q1.out⟩
    · rw [radV_code hp hn (by decide)]
      clear hn
      simp only [Aq, We] at HA ⊢
      go_enter Try.func24, Try.ntmps24
      go_wp2_with (first | (go_at_call 58; refine HA.mono ?_; clear HA; rintro e V1 ⟨rfl, hq1⟩; have Q1 := Lib.hid (B0.trans (hq1.mono (by omega))); clear hq1 B0 b0 b1 b2 z) | (go_at_call 57; refine (plain3s_is L true hp _).mono ?_; rintro e w' ⟨rfl, rfl⟩))
      go_ret2
      exact ⟨rfl, Q1.out⟩

set_option maxRecDepth 100000 in
set_option maxHeartbeats 2000000 in
theorem implRadiusOf_any (T S : Nat) (hT : T < 4294967296) (hS : S < 4294967296) (X Y : Int) (R : Nat) (hX : -128 ≤ X ∧ X ≤ 127) (hY : -128 ≤ Y ∧ Y ≤ 127) (t : Int) (L : Nat) (w : World) : Calls Try.prog 23 #[.agg (Aq T S), .agg (We X Y R), .int .i64 t, .float .f32 L] w fun e w' => e = .returned (.tuple #[.int .i64 (radV T S R X Y t L).1, .int .i64 (radV T S R X Y t L).2]) ∧ Below w.heap.size w w' := by
  obtain ⟨z, b0, b1, B0⟩ := laid2 w (.cells #[.float .f32 T, .float .f32 S] 26) (.cells #[.int .i8 X, .int .i8 Y, .float .f32 R] 30)
  cases hp : pnB L
  · rw [radV_no hp]
    simp only [Aq, We]
    go_enter Try.func23, Try.ntmps23
    go_wp2_with ((go_at_call 53; refine (plain3i_is L false hp _).mono ?_; rintro e w' ⟨rfl, rfl⟩))
    go_ret2
    exact ⟨rfl, below2 _ _ _ _ _⟩
  · obtain ⟨c, hn⟩ : ∃ c, askV T S X Y R 0 0 [t] = c := ⟨_, rfl⟩
    have hcs := ask_cases T S X Y R 0 0 [t]
    rw [hn] at hcs
    have HA := (ask_own T S X Y R [t]).trans hn
    rcases hcs with rfl | rfl | rfl
    · obtain ⟨kT, kS, kX, kY, kx, ky, kt⟩ := ask_ok hT hS hn
      have ht := kt t (by simp)
      obtain ⟨m, hm⟩ : ∃ m : Nat, (101 - X).toNat = m := ⟨_, rfl⟩
      rw [radV_yes hp hn hm]
      obtain ⟨c, hC⟩ : ∃ c, radN (fun x => geO (drwV T S R (x - X) (Y - Y) t) L) m X = c := ⟨_, rfl⟩
      rw [hC]
      clear kt hn
      simp only [Aq, We]
      go_enter Try.func23, Try.ntmps23
      go_wp2_with (first | (go_at_call 55; have hc := sunk_any X Y R hX hY ((w.alloc (.cells #[.float .f32 T, .float .f32 S] 26)).alloc (.cells #[.int .i8 X, .int .i8 Y, .float .f32 R] 30)); simp only [We] at hc; refine hc.mono ?_; clear hc; simp only [Sk]; rintro e Vs ⟨rfl, hqs⟩; obtain ⟨zs, u0, u1, BS⟩ := laid2 Vs (.cells #[.int .i64 X, .int .i64 Y, .float .f32 R] 85) (.cells #[.int .i64 t] 2); have d0 : Vs.cell? ⟨w.heap.size, 0, none⟩ = some (.float .f32 T) := cell_of_row _ _ 0 _ _ _ ((hqs.block w.heap.size (by omega)).trans b0); have d1 : Vs.cell? ⟨w.heap.size, 1, none⟩ = some (.float .f32 S) := cell_of_row _ _ 1 _ _ _ ((hqs.block w.heap.size (by omega)).trans b0); have e0 : Vs.cell? ⟨w.heap.size + 1, 0, none⟩ = some (.int .i8 X) := cell_of_row _ _ 0 _ _ _ ((hqs.block (w.heap.size + 1) (by omega)).trans b1); have e1 : Vs.cell? ⟨w.heap.size + 1, 1, none⟩ = some (.int .i8 Y) := cell_of_row _ _ 1 _ _ _ ((hqs.block (w.heap.size + 1) (by omega)).trans b1); have e2 : Vs.cell? ⟨w.heap.size + 1, 2, none⟩ = some (.float .f32 R) := cell_of_row _ _ 2 _ _ _ ((hqs.block (w.heap.size + 1) (by omega)).trans b1); have zq := hqs.size; rw [z] at zq; obtain ⟨zs1, v0⟩ := laid1 Vs (.cells #[.int .i64 X, .int .i64 Y, .float .f32 R] 85); have BS1 := below_a #[Value.int .i64 X, .int .i64 Y, .float .f32 R] 85 Vs; have f0 := (BS1.cell (p := ⟨w.heap.size, 0, none⟩) (by show w.heap.size < _; omega)).trans d0; have f1 := (BS1.cell (p := ⟨w.heap.size, 1, none⟩) (by show w.heap.size < _; omega)).trans d1; have g0 := (BS1.cell (p := ⟨w.heap.size + 1, 0, none⟩) (by show w.heap.size + 1 < _; omega)).trans e0; have g1 := (BS1.cell (p := ⟨w.heap.size + 1, 1, none⟩) (by show w.heap.size + 1 < _; omega)).trans e1; have g2 := (BS1.cell (p := ⟨w.heap.size + 1, 2, none⟩) (by show w.heap.size + 1 < _; omega)).trans e2; have h0 := cell_of_row _ _ 0 _ _ _ v0; have h1 := cell_of_row _ _ 1 _ _ _ v0; have h2 := cell_of_row _ _ 2 _ _ _ v0; have QS := Lib.hid (B0.trans (hqs.mono (by omega))); clear hqs b0 b1 B0 z) | (go_at_call 54; have hc := checkWell_any T S X Y R hX hY X Y t (Vs.heap.size + 1) 1 (Vs.alloc (.cells #[.int .i64 X, .int .i64 Y, .float .f32 R] 85) |>.alloc (.cells #[.int .i64 t] 2)) (by omega) (rangeAt_row u1); rw [HA] at hc; simp only [Aq, We, Pc] at hc; refine hc.mono ?_; clear hc; rintro e V1 ⟨rfl, hq1⟩; have Q1 := Lib.hid (QS.out.trans ((BS.trans (hq1.mono (by omega))).mono (by omega))); have s0 : V1.cell? ⟨Vs.heap.size, 0, none⟩ = some (.int .i64 X) := cell_of_row _ _ 0 _ _ _ ((hq1.block Vs.heap.size (by omega)).trans u0); have s1 : V1.cell? ⟨Vs.heap.size, 1, none⟩ = some (.int .i64 Y) := cell_of_row _ _ 1 _ _ _ ((hq1.block Vs.heap.size (by omega)).trans u0); have s2 : V1.cell? ⟨Vs.heap.size, 2, none⟩ = some (.float .f32 R) := cell_of_row _ _ 2 _ _ _ ((hq1.block Vs.heap.size (by omega)).trans u0); have z1 := hq1.size; rw [zs] at z1; have d0 := ((BS.trans (hq1.mono (by omega))).cell (p := ⟨w.heap.size, 0, none⟩) (by show w.heap.size < _; omega)).trans d0; have d1 := ((BS.trans (hq1.mono (by omega))).cell (p := ⟨w.heap.size, 1, none⟩) (by show w.heap.size < _; omega)).trans d1; clear e0 e1 e2 f0 f1 g0 g1 g2 h0 h1 h2 BS1 v0 zs1; clear hq1 u0 u1 BS QS zs) | (go_at_call 53; refine (plain3i_is L true hp _).mono ?_; rintro e w' ⟨rfl, rfl⟩))
      obtain ⟨zp, pp⟩ := laid1 V1 (.cells #[.int .i64 X, .int .i64 Y] 82)
      have BP : Below V1.heap.size V1 (V1.alloc (.cells #[.int .i64 X, .int .i64 Y] 82)) := below_a _ _ _
      go_loopw [12, 13] (fun i q wr => ∃ k b : Nat, k ≤ m ∧ i = .int .i64 ((k : Int) - 1) ∧ q = .pointer (some ⟨b, 0, none⟩) ∧ b < wr.heap.size ∧ V1.heap.size ≤ b ∧ wr.cell? ⟨b, 0, none⟩ = some (.int .i64 (X + (k : Int))) ∧ wr.cell? ⟨b, 1, none⟩ = some (.int .i64 Y) ∧ radN (fun x => geO (drwV T S R (x - X) (Y - Y) t) L) (m - k) (X + (k : Int)) + k = c ∧ Hid (Below V1.heap.size (V1.alloc (.cells #[.int .i64 X, .int .i64 Y] 82)) wr)) (fun i _ _ => 101 - X - intOf i |>.toNat)
      case atStart => exact ⟨0, V1.heap.size, by omega, rfl, rfl, by omega, by omega, by rw [show X + ((0 : Nat) : Int) = X by omega]; exact cell_of_row _ _ 0 _ _ _ pp, cell_of_row _ _ 1 _ _ _ pp, by rw [show X + ((0 : Nat) : Int) = X by omega]; simpa using hC, Lib.hid (Below.refl _ _)⟩
      case round =>
        obtain ⟨k, b, hk, rfl, rfl, hb, hb1, p0, p1, hU, hQ⟩ := hrel
        have zw := hQ.out.size
        have d0 := ((BP.trans hQ.out).cell (p := ⟨w.heap.size, 0, none⟩) (by show w.heap.size < _; omega)).trans d0
        have d1 := ((BP.trans hQ.out).cell (p := ⟨w.heap.size, 1, none⟩) (by show w.heap.size < _; omega)).trans d1
        have s0 := ((BP.trans hQ.out).cell (p := ⟨Vs.heap.size, 0, none⟩) (by show Vs.heap.size < _; omega)).trans s0
        have s1 := ((BP.trans hQ.out).cell (p := ⟨Vs.heap.size, 1, none⟩) (by show Vs.heap.size < _; omega)).trans s1
        have s2 := ((BP.trans hQ.out).cell (p := ⟨Vs.heap.size, 2, none⟩) (by show Vs.heap.size < _; omega)).trans s2
        by_cases hlt : k < m
        · have hnear : (plB (X + (k : Int)) && plB Y) = true := by simp [plB]; omega
          obtain ⟨j, hj⟩ : ∃ j, m - k = j + 1 := ⟨m - k - 1, by omega⟩
          rw [hj, radN] at hU
          cases hf : geO (drwV T S R (X + (k : Int) - X) (Y - Y) t) L
          · have HU := Lib.hid (show k = c by rw [hf] at hU; simpa using hU)
            clear hU
            by_cases hk0 : k = 0
            · have HC := Lib.hid (show c = 0 from HU.out.symm.trans hk0)
              have hz0 : (k : Int) - 1 < 0 := by omega
              clear hk0
              go_wp2_with (first | (go_at_call 60; have hc := isNear_is (X + (k : Int)) Y wr; rw [hnear] at hc; simp only [Pc] at hc; refine hc.mono ?_; clear hc; rintro e V2 ⟨rfl, hq2⟩; have zr2 := hq2.size; have d0 := (hq2.cell (p := ⟨w.heap.size, 0, none⟩) (by show w.heap.size < _; omega)).trans d0; have d1 := (hq2.cell (p := ⟨w.heap.size, 1, none⟩) (by show w.heap.size < _; omega)).trans d1; have s0 := (hq2.cell (p := ⟨Vs.heap.size, 0, none⟩) (by show Vs.heap.size < _; omega)).trans s0; have s1 := (hq2.cell (p := ⟨Vs.heap.size, 1, none⟩) (by show Vs.heap.size < _; omega)).trans s1; have s2 := (hq2.cell (p := ⟨Vs.heap.size, 2, none⟩) (by show Vs.heap.size < _; omega)).trans s2; have p0 := (hq2.cell (p := ⟨b, 0, none⟩) (by show b < _; omega)).trans p0; have p1 := (hq2.cell (p := ⟨b, 1, none⟩) (by show b < _; omega)).trans p1; have Q2 := Lib.hid (hQ.out.trans (hq2.mono (by omega))); clear hq2) | (go_at_call 56; have hc := drawdownAt_any T S X Y R (X + (k : Int)) Y t kT kS kX kY (by omega) kY ht V2; simp only [Sk, Aq, Pc] at hc; refine hc.mono ?_; clear hc; rintro e V3 ⟨r38, rfl, hr38, hq3⟩; have hge := geX hr38 hf; have zr3 := hq3.size; have d0 := (hq3.cell (p := ⟨w.heap.size, 0, none⟩) (by show w.heap.size < _; omega)).trans d0; have d1 := (hq3.cell (p := ⟨w.heap.size, 1, none⟩) (by show w.heap.size < _; omega)).trans d1; have s0 := (hq3.cell (p := ⟨Vs.heap.size, 0, none⟩) (by show Vs.heap.size < _; omega)).trans s0; have s1 := (hq3.cell (p := ⟨Vs.heap.size, 1, none⟩) (by show Vs.heap.size < _; omega)).trans s1; have s2 := (hq3.cell (p := ⟨Vs.heap.size, 2, none⟩) (by show Vs.heap.size < _; omega)).trans s2; have p0 := (hq3.cell (p := ⟨b, 0, none⟩) (by show b < _; omega)).trans p0; have p1 := (hq3.cell (p := ⟨b, 1, none⟩) (by show b < _; omega)).trans p1; have Q3 := Lib.hid (Q2.out.trans (hq3.mono (by omega))); clear hq3 hr38))
              go_ret2
              exact ⟨by rw [HC.out]; rfl, Q1.out.trans (BP.trans (Q3.out.mono (by omega)) |>.mono (by omega))⟩
            · have hz0 : ¬ (k : Int) - 1 < 0 := by omega
              go_wp2_with (first | (go_at_call 60; have hc := isNear_is (X + (k : Int)) Y wr; rw [hnear] at hc; simp only [Pc] at hc; refine hc.mono ?_; clear hc; rintro e V2 ⟨rfl, hq2⟩; have zr2 := hq2.size; have d0 := (hq2.cell (p := ⟨w.heap.size, 0, none⟩) (by show w.heap.size < _; omega)).trans d0; have d1 := (hq2.cell (p := ⟨w.heap.size, 1, none⟩) (by show w.heap.size < _; omega)).trans d1; have s0 := (hq2.cell (p := ⟨Vs.heap.size, 0, none⟩) (by show Vs.heap.size < _; omega)).trans s0; have s1 := (hq2.cell (p := ⟨Vs.heap.size, 1, none⟩) (by show Vs.heap.size < _; omega)).trans s1; have s2 := (hq2.cell (p := ⟨Vs.heap.size, 2, none⟩) (by show Vs.heap.size < _; omega)).trans s2; have p0 := (hq2.cell (p := ⟨b, 0, none⟩) (by show b < _; omega)).trans p0; have p1 := (hq2.cell (p := ⟨b, 1, none⟩) (by show b < _; omega)).trans p1; have Q2 := Lib.hid (hQ.out.trans (hq2.mono (by omega))); clear hq2) | (go_at_call 56; have hc := drawdownAt_any T S X Y R (X + (k : Int)) Y t kT kS kX kY (by omega) kY ht V2; simp only [Sk, Aq, Pc] at hc; refine hc.mono ?_; clear hc; rintro e V3 ⟨r38, rfl, hr38, hq3⟩; have hge := geX hr38 hf; have zr3 := hq3.size; have d0 := (hq3.cell (p := ⟨w.heap.size, 0, none⟩) (by show w.heap.size < _; omega)).trans d0; have d1 := (hq3.cell (p := ⟨w.heap.size, 1, none⟩) (by show w.heap.size < _; omega)).trans d1; have s0 := (hq3.cell (p := ⟨Vs.heap.size, 0, none⟩) (by show Vs.heap.size < _; omega)).trans s0; have s1 := (hq3.cell (p := ⟨Vs.heap.size, 1, none⟩) (by show Vs.heap.size < _; omega)).trans s1; have s2 := (hq3.cell (p := ⟨Vs.heap.size, 2, none⟩) (by show Vs.heap.size < _; omega)).trans s2; have p0 := (hq3.cell (p := ⟨b, 0, none⟩) (by show b < _; omega)).trans p0; have p1 := (hq3.cell (p := ⟨b, 1, none⟩) (by show b < _; omega)).trans p1; have Q3 := Lib.hid (Q2.out.trans (hq3.mono (by omega))); clear hq3 hr38))
              go_ret2
              exact ⟨by rw [← HU.out]; simp only [raV, if_neg hk0]; rfl, Q1.out.trans (BP.trans (Q3.out.mono (by omega)) |>.mono (by omega))⟩
          · have HU := Lib.hid (show radN (fun x => geO (drwV T S R (x - X) (Y - Y) t) L) j (X + (k : Int) + 1) + 1 + k = c by rw [hf, if_pos rfl] at hU; exact hU)
            clear hU
            go_wp2_with (first | (go_at_call 60; have hc := isNear_is (X + (k : Int)) Y wr; rw [hnear] at hc; simp only [Pc] at hc; refine hc.mono ?_; clear hc; rintro e V2 ⟨rfl, hq2⟩; have zr2 := hq2.size; have d0 := (hq2.cell (p := ⟨w.heap.size, 0, none⟩) (by show w.heap.size < _; omega)).trans d0; have d1 := (hq2.cell (p := ⟨w.heap.size, 1, none⟩) (by show w.heap.size < _; omega)).trans d1; have s0 := (hq2.cell (p := ⟨Vs.heap.size, 0, none⟩) (by show Vs.heap.size < _; omega)).trans s0; have s1 := (hq2.cell (p := ⟨Vs.heap.size, 1, none⟩) (by show Vs.heap.size < _; omega)).trans s1; have s2 := (hq2.cell (p := ⟨Vs.heap.size, 2, none⟩) (by show Vs.heap.size < _; omega)).trans s2; have p0 := (hq2.cell (p := ⟨b, 0, none⟩) (by show b < _; omega)).trans p0; have p1 := (hq2.cell (p := ⟨b, 1, none⟩) (by show b < _; omega)).trans p1; have Q2 := Lib.hid (hQ.out.trans (hq2.mono (by omega))); clear hq2) | (go_at_call 56; have hc := drawdownAt_any T S X Y R (X + (k : Int)) Y t kT kS kX kY (by omega) kY ht V2; simp only [Sk, Aq, Pc] at hc; refine hc.mono ?_; clear hc; rintro e V3 ⟨r38, rfl, hr38, hq3⟩; have hge := geX hr38 hf; have zr3 := hq3.size; have d0 := (hq3.cell (p := ⟨w.heap.size, 0, none⟩) (by show w.heap.size < _; omega)).trans d0; have d1 := (hq3.cell (p := ⟨w.heap.size, 1, none⟩) (by show w.heap.size < _; omega)).trans d1; have s0 := (hq3.cell (p := ⟨Vs.heap.size, 0, none⟩) (by show Vs.heap.size < _; omega)).trans s0; have s1 := (hq3.cell (p := ⟨Vs.heap.size, 1, none⟩) (by show Vs.heap.size < _; omega)).trans s1; have s2 := (hq3.cell (p := ⟨Vs.heap.size, 2, none⟩) (by show Vs.heap.size < _; omega)).trans s2; have p0 := (hq3.cell (p := ⟨b, 0, none⟩) (by show b < _; omega)).trans p0; have p1 := (hq3.cell (p := ⟨b, 1, none⟩) (by show b < _; omega)).trans p1; have Q3 := Lib.hid (Q2.out.trans (hq3.mono (by omega))); clear hq3 hr38) | (go_at_call 61; refine (east3_any (X + (k : Int)) Y (by omega) _).mono ?_; rintro e V4 ⟨rfl, rfl⟩))
            go_roundw
            case rel =>
              obtain ⟨z3, l0, l1, l2, B3⟩ := laid3 V3 (.cells #[.int .i64 (X + (k : Int) + 1), .int .i64 Y] 82) (.cells #[.int .i64 (X + (k : Int)), .int .i64 Y] 82) (.cells #[.int .i64 (X + (k : Int) + 1), .int .i64 Y] 82)
              exact ⟨k + 1, V3.heap.size, by omega, i64z _ _ (by omega), rfl, by omega, by omega, by rw [show X + ((k + 1 : Nat) : Int) = X + (k : Int) + 1 by omega]; exact cell_of_row _ _ 0 _ _ _ l0, cell_of_row _ _ 1 _ _ _ l0, by rw [show m - (k + 1) = j by omega, show X + ((k + 1 : Nat) : Int) = X + (k : Int) + 1 by omega]; have := HU.out; omega, Lib.hid (Q3.out.trans (B3.mono (by omega)))⟩
            case measure => simp [intOf]; omega
        · obtain rfl : k = m := by omega
          have hnear : (plB (X + (k : Int)) && plB Y) = false := by simp [plB]; omega
          rw [Nat.sub_self, radN] at hU
          have HU := Lib.hid (show k = c by omega)
          clear hU
          by_cases hk0 : k = 0
          · exfalso; omega
          · have hz0 : ¬ (k : Int) - 1 < 0 := by omega
            go_wp2_with (first | (go_at_call 60; have hc := isNear_is (X + (k : Int)) Y wr; rw [hnear] at hc; simp only [Pc] at hc; refine hc.mono ?_; clear hc; rintro e V2 ⟨rfl, hq2⟩; have zr2 := hq2.size; have d0 := (hq2.cell (p := ⟨w.heap.size, 0, none⟩) (by show w.heap.size < _; omega)).trans d0; have d1 := (hq2.cell (p := ⟨w.heap.size, 1, none⟩) (by show w.heap.size < _; omega)).trans d1; have s0 := (hq2.cell (p := ⟨Vs.heap.size, 0, none⟩) (by show Vs.heap.size < _; omega)).trans s0; have s1 := (hq2.cell (p := ⟨Vs.heap.size, 1, none⟩) (by show Vs.heap.size < _; omega)).trans s1; have s2 := (hq2.cell (p := ⟨Vs.heap.size, 2, none⟩) (by show Vs.heap.size < _; omega)).trans s2; have p0 := (hq2.cell (p := ⟨b, 0, none⟩) (by show b < _; omega)).trans p0; have p1 := (hq2.cell (p := ⟨b, 1, none⟩) (by show b < _; omega)).trans p1; have Q2 := Lib.hid (hQ.out.trans (hq2.mono (by omega))); clear hq2))
            go_ret2
            exact ⟨by rw [← HU.out]; simp only [raV, if_neg hk0]; rfl, Q1.out.trans (BP.trans (Q2.out.mono (by omega)) |>.mono (by omega))⟩
    · rw [radV_code hp hn (by decide)]
      clear hn
      simp only [Aq, We]
      go_enter Try.func23, Try.ntmps23
      go_wp2_with (first | (go_at_call 55; have hc := sunk_any X Y R hX hY ((w.alloc (.cells #[.float .f32 T, .float .f32 S] 26)).alloc (.cells #[.int .i8 X, .int .i8 Y, .float .f32 R] 30)); simp only [We] at hc; refine hc.mono ?_; clear hc; simp only [Sk]; rintro e Vs ⟨rfl, hqs⟩; obtain ⟨zs, u0, u1, BS⟩ := laid2 Vs (.cells #[.int .i64 X, .int .i64 Y, .float .f32 R] 85) (.cells #[.int .i64 t] 2); have d0 : Vs.cell? ⟨w.heap.size, 0, none⟩ = some (.float .f32 T) := cell_of_row _ _ 0 _ _ _ ((hqs.block w.heap.size (by omega)).trans b0); have d1 : Vs.cell? ⟨w.heap.size, 1, none⟩ = some (.float .f32 S) := cell_of_row _ _ 1 _ _ _ ((hqs.block w.heap.size (by omega)).trans b0); have e0 : Vs.cell? ⟨w.heap.size + 1, 0, none⟩ = some (.int .i8 X) := cell_of_row _ _ 0 _ _ _ ((hqs.block (w.heap.size + 1) (by omega)).trans b1); have e1 : Vs.cell? ⟨w.heap.size + 1, 1, none⟩ = some (.int .i8 Y) := cell_of_row _ _ 1 _ _ _ ((hqs.block (w.heap.size + 1) (by omega)).trans b1); have e2 : Vs.cell? ⟨w.heap.size + 1, 2, none⟩ = some (.float .f32 R) := cell_of_row _ _ 2 _ _ _ ((hqs.block (w.heap.size + 1) (by omega)).trans b1); have zq := hqs.size; rw [z] at zq; obtain ⟨zs1, v0⟩ := laid1 Vs (.cells #[.int .i64 X, .int .i64 Y, .float .f32 R] 85); have BS1 := below_a #[Value.int .i64 X, .int .i64 Y, .float .f32 R] 85 Vs; have f0 := (BS1.cell (p := ⟨w.heap.size, 0, none⟩) (by show w.heap.size < _; omega)).trans d0; have f1 := (BS1.cell (p := ⟨w.heap.size, 1, none⟩) (by show w.heap.size < _; omega)).trans d1; have g0 := (BS1.cell (p := ⟨w.heap.size + 1, 0, none⟩) (by show w.heap.size + 1 < _; omega)).trans e0; have g1 := (BS1.cell (p := ⟨w.heap.size + 1, 1, none⟩) (by show w.heap.size + 1 < _; omega)).trans e1; have g2 := (BS1.cell (p := ⟨w.heap.size + 1, 2, none⟩) (by show w.heap.size + 1 < _; omega)).trans e2; have h0 := cell_of_row _ _ 0 _ _ _ v0; have h1 := cell_of_row _ _ 1 _ _ _ v0; have h2 := cell_of_row _ _ 2 _ _ _ v0; have QS := Lib.hid (B0.trans (hqs.mono (by omega))); clear hqs b0 b1 B0 z) | (go_at_call 54; have hc := checkWell_any T S X Y R hX hY X Y t (Vs.heap.size + 1) 1 (Vs.alloc (.cells #[.int .i64 X, .int .i64 Y, .float .f32 R] 85) |>.alloc (.cells #[.int .i64 t] 2)) (by omega) (rangeAt_row u1); rw [HA] at hc; simp only [Aq, We, Pc] at hc; refine hc.mono ?_; clear hc; rintro e V1 ⟨rfl, hq1⟩; have Q1 := Lib.hid (QS.out.trans ((BS.trans (hq1.mono (by omega))).mono (by omega))); clear hq1 u0 u1 BS QS zs) | (go_at_call 53; refine (plain3i_is L true hp _).mono ?_; rintro e w' ⟨rfl, rfl⟩))
      go_ret2
      exact ⟨rfl, Q1.out⟩
    · rw [radV_code hp hn (by decide)]
      clear hn
      simp only [Aq, We]
      go_enter Try.func23, Try.ntmps23
      go_wp2_with (first | (go_at_call 55; have hc := sunk_any X Y R hX hY ((w.alloc (.cells #[.float .f32 T, .float .f32 S] 26)).alloc (.cells #[.int .i8 X, .int .i8 Y, .float .f32 R] 30)); simp only [We] at hc; refine hc.mono ?_; clear hc; simp only [Sk]; rintro e Vs ⟨rfl, hqs⟩; obtain ⟨zs, u0, u1, BS⟩ := laid2 Vs (.cells #[.int .i64 X, .int .i64 Y, .float .f32 R] 85) (.cells #[.int .i64 t] 2); have d0 : Vs.cell? ⟨w.heap.size, 0, none⟩ = some (.float .f32 T) := cell_of_row _ _ 0 _ _ _ ((hqs.block w.heap.size (by omega)).trans b0); have d1 : Vs.cell? ⟨w.heap.size, 1, none⟩ = some (.float .f32 S) := cell_of_row _ _ 1 _ _ _ ((hqs.block w.heap.size (by omega)).trans b0); have e0 : Vs.cell? ⟨w.heap.size + 1, 0, none⟩ = some (.int .i8 X) := cell_of_row _ _ 0 _ _ _ ((hqs.block (w.heap.size + 1) (by omega)).trans b1); have e1 : Vs.cell? ⟨w.heap.size + 1, 1, none⟩ = some (.int .i8 Y) := cell_of_row _ _ 1 _ _ _ ((hqs.block (w.heap.size + 1) (by omega)).trans b1); have e2 : Vs.cell? ⟨w.heap.size + 1, 2, none⟩ = some (.float .f32 R) := cell_of_row _ _ 2 _ _ _ ((hqs.block (w.heap.size + 1) (by omega)).trans b1); have zq := hqs.size; rw [z] at zq; obtain ⟨zs1, v0⟩ := laid1 Vs (.cells #[.int .i64 X, .int .i64 Y, .float .f32 R] 85); have BS1 := below_a #[Value.int .i64 X, .int .i64 Y, .float .f32 R] 85 Vs; have f0 := (BS1.cell (p := ⟨w.heap.size, 0, none⟩) (by show w.heap.size < _; omega)).trans d0; have f1 := (BS1.cell (p := ⟨w.heap.size, 1, none⟩) (by show w.heap.size < _; omega)).trans d1; have g0 := (BS1.cell (p := ⟨w.heap.size + 1, 0, none⟩) (by show w.heap.size + 1 < _; omega)).trans e0; have g1 := (BS1.cell (p := ⟨w.heap.size + 1, 1, none⟩) (by show w.heap.size + 1 < _; omega)).trans e1; have g2 := (BS1.cell (p := ⟨w.heap.size + 1, 2, none⟩) (by show w.heap.size + 1 < _; omega)).trans e2; have h0 := cell_of_row _ _ 0 _ _ _ v0; have h1 := cell_of_row _ _ 1 _ _ _ v0; have h2 := cell_of_row _ _ 2 _ _ _ v0; have QS := Lib.hid (B0.trans (hqs.mono (by omega))); clear hqs b0 b1 B0 z) | (go_at_call 54; have hc := checkWell_any T S X Y R hX hY X Y t (Vs.heap.size + 1) 1 (Vs.alloc (.cells #[.int .i64 X, .int .i64 Y, .float .f32 R] 85) |>.alloc (.cells #[.int .i64 t] 2)) (by omega) (rangeAt_row u1); rw [HA] at hc; simp only [Aq, We, Pc] at hc; refine hc.mono ?_; clear hc; rintro e V1 ⟨rfl, hq1⟩; have Q1 := Lib.hid (QS.out.trans ((BS.trans (hq1.mono (by omega))).mono (by omega))); clear hq1 u0 u1 BS QS zs) | (go_at_call 53; refine (plain3i_is L true hp _).mono ?_; rintro e w' ⟨rfl, rfl⟩))
      go_ret2
      exact ⟨rfl, Q1.out⟩
end Go.Proofs.Ythklihenghnaeaa
