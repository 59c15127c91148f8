/- The law FnReach of this commit: for every input the call returns true, and each argument reads afterwards as it read before. Condition: none. -/
import Derived.Test.YthklihenghnaeaaReachV
namespace Go.Proofs.Ythklihenghnaeaa
open Go Go.ChangeShapes Go.WideShapes Go.ChangeAt Go.RowKit Go.Deep
set_option linter.unusedSimpArgs false
set_option linter.unusedVariables false
attribute [local go_sem] run_store_f32

set_option maxRecDepth 100000 in
set_option maxHeartbeats 1000000 in
theorem fnReach_near (p q : Option Addr) (n c m d : Nat) (hn : n ≤ 4096) (hm : m ≤ 4096) (w : World) (hp : BytesAt w w.heap.size p n) (hq : BytesAt w w.heap.size q m) :
    Calls Try.prog 3 #[.slice p n c, .slice q m d] w fun e w' => e = .returned (.bool true) ∧ Below w.heap.size w w' := by
  have hxn : n ≤ maxLen := by unfold maxLen; omega
  have hxm : m ≤ maxLen := by unfold maxLen; omega
  have F1 := fun V => f6big_any p n c hxn V
  have F2 := fun V => f6big_any q m d hxm V
  rw [show decide ((4096 : Int) < n) = false by simp; omega] at F1
  rw [show decide ((4096 : Int) < m) = false by simp; omega] at F2
  have HP := Lib.hid hp
  have HQ := Lib.hid hq
  have HN := Lib.hid hxn
  have HM := Lib.hid hxm
  clear hp hq hxn hxm hn hm
  have t1 : True := trivial
  go_enter Try.func3, Try.ntmps3
  go_upto_region 4 with (first
    | (have _t := t1; go_at_call 15; refine (F1 _).mono ?_; rintro e V ⟨rfl, hV⟩; rw [hV]; clear hV t1)
    | (go_at_call 15; refine (F2 _).mono ?_; rintro e V ⟨rfl, hV⟩; rw [hV]; clear hV)
    | (go_at_call 16; refine (P6Aquifer_any p n c HN.out _ HP.out).mono ?_; rintro e V1 ⟨⟨i, j, hi, hj, rfl⟩, hB1⟩; have Q1 := Lib.hid hB1; clear hB1)
    | (refine wpList_store_mid rfl 26 _ _ rfl V1.heap.size 0 #[.float .f32 (aqT i), .float .f32 (aqS j)] rfl rfl (there_row (heap_alloc_last V1 _) rfl) (by kernel_rfl) (by simp [Value.oneCell']) ?_))
  obtain ⟨A, hA⟩ : ∃ A, V1.heap.size = A := ⟨_, rfl⟩
  obtain ⟨U1, hU1⟩ : ∃ U1, (V1.alloc (.cells #[.float .f32 0, .float .f32 0] 26)).setCells V1.heap.size 0 [.float .f32 (aqT i), .float .f32 (aqS j)] = U1 := ⟨_, rfl⟩
  try simp only [Aq]
  rw [hU1]
  have RA : U1.heap[A]? = some (.cells #[.float .f32 (aqT i), .float .f32 (aqS j)] 26 (0, 0)) := by
    rw [← hU1, ← hA]
    have h1 := heap_setCell_same (v := .float .f32 (aqT i)) (V1.alloc (.cells #[.float .f32 0, .float .f32 0] 26)) V1.heap.size 0 _ _ (heap_alloc_last V1 _)
    exact heap_setCell_same (v := .float .f32 (aqS j)) _ V1.heap.size 1 _ _ h1
  have BU1 : Below w.heap.size w U1 := by
    rw [← hU1]
    exact below_setCells _ Q1.out.size _ _ _ (Q1.out.alloc Q1.out.size _)
  rw [hA]
  have GA := Lib.hid RA
  have GB1 := Lib.hid BU1
  clear hU1 RA BU1 hA Q1
  go_upto_region 5 with (first
    | (go_at_call 17; refine (P6Site_any q m d HM.out _ (HQ.out.at' GB1.out)).mono ?_; rintro e V2 ⟨⟨a, b, k, x, y, ha, hb, hk, hx, hy, rfl⟩, hB2⟩; have Q2 := Lib.hid hB2; clear hB2)
    | (refine wpList_store_mid rfl 32 _ _ rfl V2.heap.size 0 #[.int .i8 (a : Int), .int .i8 (b : Int), .float .f32 (rtV k), .int .i8 (x : Int), .int .i8 (y : Int)] rfl rfl (there_row (heap_alloc_last V2 _) rfl) (by kernel_rfl) (by simp [Value.oneCell']) ?_))
  obtain ⟨B, hB⟩ : ∃ B, V2.heap.size = B := ⟨_, rfl⟩
  obtain ⟨U2, hU2⟩ : ∃ U2, (V2.alloc (.cells #[.int .i8 0, .int .i8 0, .float .f32 0, .int .i8 0, .int .i8 0] 32)).setCells V2.heap.size 0 [.int .i8 (a : Int), .int .i8 (b : Int), .float .f32 (rtV k), .int .i8 (x : Int), .int .i8 (y : Int)] = U2 := ⟨_, rfl⟩
  try simp only [Si]
  rw [hU2]
  have RB : U2.heap[B]? = some (.cells #[.int .i8 (a : Int), .int .i8 (b : Int), .float .f32 (rtV k), .int .i8 (x : Int), .int .i8 (y : Int)] 32 (0, 0)) := by
    rw [← hU2, ← hB]
    have h1 := heap_setCell_same (v := .int .i8 (a : Int)) (V2.alloc (.cells #[.int .i8 0, .int .i8 0, .float .f32 0, .int .i8 0, .int .i8 0] 32)) V2.heap.size 0 _ _ (heap_alloc_last V2 _)
    have h2 := heap_setCell_same (v := .int .i8 (b : Int)) _ V2.heap.size 1 _ _ h1
    have h3 := heap_setCell_same (v := .float .f32 (rtV k)) _ V2.heap.size 2 _ _ h2
    have h4 := heap_setCell_same (v := .int .i8 (x : Int)) _ V2.heap.size 3 _ _ h3
    exact heap_setCell_same (v := .int .i8 (y : Int)) _ V2.heap.size 4 _ _ h4
  have BU2 : Below U1.heap.size U1 U2 := by
    rw [← hU2]
    exact below_setCells _ Q2.out.size _ _ _ (Q2.out.alloc Q2.out.size _)
  rw [hB]
  have GA2 := Lib.hid (rows_kept GA.out GA.out BU2).1
  have GB := Lib.hid RB
  have GB2 := Lib.hid (GB1.out.trans (BU2.mono GB1.out.size))
  clear hU2 RB BU2 hB Q2 GA GB1
  go_upto_region 6 with (first
    | (go_at_call 18; refine (P6Number_any p n c HN.out _ (HP.out.at' GB2.out)).mono ?_; rintro e V3 ⟨⟨z, hz, rfl⟩, hB3⟩; have FL := Lib.hid (lv_ok z hz).1; have RW := Lib.hid (rows_kept GA2.out GB.out hB3); have GB3 := Lib.hid (GB2.out.trans (hB3.mono GB2.out.size)); clear hB3 GA2 GB GB2)
    | (refine wpList_floatD rfl _ _ _ _ _ rfl rfl .f32 _ _ _ rfl rfl FL.out ?_))
  obtain ⟨hT, hS⟩ := drawn_lt hi hj
  have ASK := Lib.hid (fun (x y t : Int) (hx : plB x = true) (hy : plB y = true) (ht : tmB t = true) => ask_drawn (k := k) hi hj ha hb hk x y t hx hy ht)
  have hL := (lv_ok z hz).2
  clear hi hj hk hz FL
  obtain ⟨T, eT⟩ : ∃ T, aqT i = T := ⟨_, rfl⟩
  obtain ⟨S, eS⟩ : ∃ S, aqS j = S := ⟨_, rfl⟩
  obtain ⟨R, eR⟩ : ∃ R, rtV k = R := ⟨_, rfl⟩
  obtain ⟨LL, eL⟩ : ∃ LL, lvV z = LL := ⟨_, rfl⟩
  simp only [eT, eS, eR, eL] at hT hS ASK hL RW ⊢
  clear eT eS eR eL
  obtain ⟨X, eX⟩ : ∃ X : Int, (a : Int) = X := ⟨_, rfl⟩
  obtain ⟨Y, eY⟩ : ∃ Y : Int, (b : Int) = Y := ⟨_, rfl⟩
  obtain ⟨xx, ex⟩ : ∃ xx : Int, (x : Int) = xx := ⟨_, rfl⟩
  obtain ⟨yy, ey⟩ : ∃ yy : Int, (y : Int) = yy := ⟨_, rfl⟩
  have hX : 0 ≤ X ∧ X ≤ 5 := by omega
  have hY : 0 ≤ Y ∧ Y ≤ 5 := by omega
  have hxx : 0 ≤ xx ∧ xx ≤ 9 := by omega
  have hyy : 0 ≤ yy ∧ yy ≤ 9 := by omega
  simp only [eX, eY, ex, ey] at ASK RW ⊢
  clear eX eY ex ey ha hb hx hy
  have hX8 : -128 ≤ X ∧ X ≤ 127 := by omega
  have hY8 : -128 ≤ Y ∧ Y ≤ 127 := by omega
  have LD : ∀ V, Below V3.heap.size V3 V → V.cell? ⟨A, 0, none⟩ = some (.float .f32 T) ∧ V.cell? ⟨A, 1, none⟩ = some (.float .f32 S) ∧ V.cell? ⟨B, 0, none⟩ = some (.int .i8 X) ∧ V.cell? ⟨B, 1, none⟩ = some (.int .i8 Y) ∧ V.cell? ⟨B, 2, none⟩ = some (.float .f32 R) ∧ V.cell? ⟨B, 3, none⟩ = some (.int .i8 xx) ∧ V.cell? ⟨B, 4, none⟩ = some (.int .i8 yy) := fun V hV => by
    obtain ⟨h1, h2⟩ := rows_kept RW.out.1 RW.out.2 hV
    exact ⟨cell_of_row _ _ 0 _ _ _ h1, cell_of_row _ _ 1 _ _ _ h1, cell_of_row _ _ 0 _ _ _ h2, cell_of_row _ _ 1 _ _ _ h2, cell_of_row _ _ 2 _ _ _ h2, cell_of_row _ _ 3 _ _ _ h2, cell_of_row _ _ 4 _ _ _ h2⟩
  have HLD := Lib.hid LD
  have pl : ∀ v : Int, -100 ≤ v → v ≤ 100 → plB v = true := fun v h1 h2 => by simp [plB, h1, h2]
  have tm : ∀ v : Int, 1 ≤ v → v ≤ 100000 → tmB v = true := fun v h1 h2 => by simp [tmB, h1, h2]
  -- the time
  obtain ⟨f, hf⟩ : ∃ f : Int → Bool, (fun t => geO (drwV T S R (xx - X) (yy - Y) t) LL) = f := ⟨_, rfl⟩
  have hTU : tuV T S R X Y xx yy LL 40 = untilT f 40 1 := by
    rw [← hf]
    exact tuV_yes (m := 40) hL (ASK.out xx yy 40 (pl _ (by omega) (by omega)) (pl _ (by omega) (by omega)) (by decide))
  obtain ⟨D, cc, E, hD, hE1, hE2, hcE, hall⟩ : ∃ D cc E : Int, untilT f 40 1 = (D, cc) ∧ 1 ≤ E ∧ E ≤ 40 ∧ (cc = 0 ∧ E = D ∨ cc = 6 ∧ E = 40) ∧ ∀ v, 1 ≤ v → v ≤ E → f v = (decide (cc = 0) && decide (v = D)) := by
    rcases untilT_first f 40 1 with ⟨h, ha⟩ | ⟨u, h, h1, h2, h3, h4⟩
    · exact ⟨0, 6, 40, h, by omega, by omega, .inr ⟨rfl, rfl⟩, fun v h1 h2 => by rw [ha v h1 (by omega)]; rfl⟩
    · refine ⟨u, 0, u, h, h1, by omega, .inl ⟨rfl, rfl⟩, fun v k1 k2 => ?_⟩
      by_cases hv : v = u
      · subst hv; rw [h3]; simp
      · rw [h4 v k1 (by omega)]; simp [hv]
  have TI := Lib.hid (fun V => implTimeUntil_any T S hT hS X Y R hX8 hY8 xx yy LL 40 V)
  have TS := Lib.hid (fun V => specTimeUntil_any T S hT hS X Y R hX8 hY8 xx yy LL 40 V)
  simp only [hTU, hD] at TI TS
  have HF := Lib.hid hf
  have HALL := Lib.hid hall
  clear hTU hD hf hall LD
  obtain ⟨a0, a1, s0, s1, s2, s3, s4⟩ := HLD.out V3 (Below.refl _ _)
  simp only [Aq, We] at TI TS
  go_upto_region 7 with (go_at_call 19; refine (TI.out _).mono ?_; rintro e V4 ⟨rfl, hB4⟩; have Q4 := Lib.hid hB4; clear hB4 a0 a1 s0 s1 s2 s3 s4 TI; obtain ⟨a0, a1, s0, s1, s2, s3, s4⟩ := HLD.out V4 Q4.out)
  go_upto_region 8 with (go_at_call 20; refine (TS.out _).mono ?_; rintro e V5 ⟨rfl, hB5⟩; have Q5 := Lib.hid (Q4.out.trans (hB5.mono Q4.out.size)); clear hB5 a0 a1 s0 s1 s2 s3 s4 TS Q4)
  have HQ5 := Lib.hid (HQ.out.at' GB3.out)
  have DA := Lib.hid (fun (x y t : Int) (V : World) (hx : plB x = true) (hy : plB y = true) (ht : tmB t = true) => (show Calls Try.prog 21 #[.agg #[.float .f32 T, .float .f32 S], .agg #[.int .i8 X, .int .i8 Y, .float .f32 R], .int .i64 x, .int .i64 y, .int .i64 t] V fun e w' => ∃ r, e = .returned (.tuple #[.float .f32 r, .int .i64 0]) ∧ num .f32 r = drwV T S R (x - X) (y - Y) t ∧ Below V.heap.size V w' from by
    have h := implDrawdownAt_any T S hT hS X Y R hX8 hY8 x y t V
    rw [ASK.out x y t hx hy ht] at h
    exact h))
  have hR0 : ∀ (t : Int) (ht : tmB t = true), radV T S R X Y t LL = raV (radN (fun x => geO (drwV T S R (x - X) (Y - Y) t) LL) (101 - X).toNat X) := fun t ht => radV_yes hL (ASK.out 0 0 t (by decide) (by decide) ht) rfl
  have HR0 := Lib.hid hR0
  clear hR0 hL
  rcases hcE with ⟨rfl, rfl⟩ | ⟨rfl, rfl⟩
  · go_wp2
    go_loopw [13] (fun i wr => ∃ kk : Int, 1 ≤ kk ∧ kk ≤ E + 1 ∧ i = .int .i64 kk ∧ Hid (Below V3.heap.size V3 wr)) (fun i _ => (E + 1 - intOf i).toNat)
    case atStart => exact ⟨1, by omega, by omega, rfl, Q5⟩
    case round =>
      obtain ⟨kk, hk1, hk2, rfl, hB⟩ := hrel
      by_cases hlt : kk ≤ E
      · obtain ⟨a0, a1, s0, s1, s2, s3, s4⟩ := HLD.out wr hB.out
        have DR := Lib.hid (DA.out xx yy kk wr (pl _ (by omega) (by omega)) (pl _ (by omega) (by omega)) (tm _ (by omega) (by omega)))
        have hv : geO (drwV T S R (xx - X) (yy - Y) kk) LL = (decide ((0 : Int) = 0) && decide (kk = E)) := by
          have := HALL.out kk hk1 hlt
          rw [← HF.out] at this
          exact this
        have HV := Lib.hid hv
        clear hv
        by_cases hkD : kk = E
        · subst hkD
          have HV2 := Lib.hid (show geO (drwV T S R (xx - X) (yy - Y) kk) LL = true from by rw [HV.out]; simp)
          clear HV
          go_wp2_with (go_at_call 21; refine DR.out.mono ?_; rintro e V6 ⟨r, rfl, hr, hB6⟩; have g := geX hr HV2.out; have Q6 := Lib.hid (hB.out.trans (hB6.mono hB.out.size)); clear hr hB6 DR HV2 a0 a1 s0 s1 s2 s3 s4)
          go_roundw
          case rel => exact ⟨kk + 1, by omega, by omega, by go_num, Q6⟩
          case measure => simp [intOf]; omega
        · have HV2 := Lib.hid (show geO (drwV T S R (xx - X) (yy - Y) kk) LL = false from by rw [HV.out]; simp [hkD])
          clear HV
          go_wp2_with (go_at_call 21; refine DR.out.mono ?_; rintro e V6 ⟨r, rfl, hr, hB6⟩; have g := geX hr HV2.out; have Q6 := Lib.hid (hB.out.trans (hB6.mono hB.out.size)); clear hr hB6 DR HV2 a0 a1 s0 s1 s2 s3 s4)
          go_roundw
          case rel => exact ⟨kk + 1, by omega, by omega, by go_num, Q6⟩
          case measure => simp [intOf]; omega
      · obtain rfl : kk = E + 1 := by omega
        have HQ6 := Lib.hid (HQ5.out.at' hB.out)
        go_upto_region 20 with (go_at_call 22; refine (P6Pick_any q m d 40 HM.out (by omega) (by omega) _ HQ6.out).mono ?_; rintro e V7 ⟨⟨xk, hxk, rfl⟩, hB7⟩; have Q7 := Lib.hid (hB.out.trans (hB7.mono hB.out.size)); clear hB7)
        obtain ⟨MM, hMM⟩ : ∃ MM : Int, 1 + (xk : Int) = MM := ⟨_, rfl⟩
        have hM1 : 1 ≤ MM ∧ MM ≤ 40 := by omega
        simp only [hMM]
        clear hMM hxk hB
        obtain ⟨cn, hcn⟩ : ∃ cn, radN (fun x => geO (drwV T S R (x - X) (Y - Y) MM) LL) (101 - X).toNat X = cn := ⟨_, rfl⟩
        obtain ⟨r1, r2, r3⟩ := radN_first (fun x => geO (drwV T S R (x - X) (Y - Y) MM) LL) (101 - X).toNat X
        rw [hcn] at r1 r2 r3
        have hrV := HR0.out MM (tm _ (by omega) (by omega))
        rw [hcn] at hrV
        have RI := Lib.hid (fun V => implRadiusOf_any T S hT hS X Y R hX8 hY8 MM LL V)
        have RS := Lib.hid (fun V => specRadiusOf_any T S hT hS X Y R hX8 hY8 MM LL V)
        simp only [hrV, Aq, We] at RI RS
        obtain ⟨a0, a1, s0, s1, s2, s3, s4⟩ := HLD.out V7 Q7.out
        clear hcn hrV
        rcases Nat.eq_zero_or_pos cn with h0 | h0
        · subst h0
          simp only [raV, if_pos] at RI RS
          have hz := r3 (by omega)
          simp only [Int.natCast_zero, Int.add_zero] at hz
          have HZ := Lib.hid hz
          have DR := Lib.hid (fun V => DA.out X Y MM V (pl _ (by omega) (by omega)) (pl _ (by omega) (by omega)) (tm _ (by omega) (by omega)))
          clear r1 r2 r3 hz
          go_wp2_with (first
            | (go_at_call 23; refine (RI.out _).mono ?_; rintro e V8 ⟨rfl, hB8⟩; have Q8 := Lib.hid (Q7.out.trans (hB8.mono Q7.out.size)); clear hB8 a0 a1 s0 s1 s2 s3 s4 RI; obtain ⟨a0, a1, s0, s1, s2, s3, s4⟩ := HLD.out V8 Q8.out)
            | (go_at_call 24; refine (RS.out _).mono ?_; rintro e V9 ⟨rfl, hB9⟩; have Q9 := Lib.hid (Q8.out.trans (hB9.mono Q8.out.size)); clear hB9 a0 a1 s0 s1 s2 s3 s4 RS; obtain ⟨a0, a1, s0, s1, s2, s3, s4⟩ := HLD.out V9 Q9.out)
            | (go_at_call 21; refine (DR.out _).mono ?_; rintro e Va ⟨r, rfl, hr, hBa⟩; have g := geX hr HZ.out; have Qa := Lib.hid (Q9.out.trans (hBa.mono Q9.out.size)); clear hBa hr a0 a1 s0 s1 s2 s3 s4))
          go_ret
          exact ⟨rfl, GB3.out.trans (Qa.out.mono GB3.out.size)⟩
        · obtain ⟨C, hC⟩ : ∃ C : Int, (cn : Int) - 1 = C := ⟨_, rfl⟩
          have hC0 : 0 ≤ C ∧ C ≤ 101 := by omega
          simp only [raV, if_neg (show ¬ cn = 0 by omega), hC] at RI RS
          have hG : ∀ n : Int, 0 ≤ n → n ≤ C + 1 → X + n ≤ 100 → geO (drwV T S R (X + n - X) (Y - Y) MM) LL = decide (n ≤ C) := fun n n1 n2 n3 => by
            obtain ⟨nn, rfl⟩ : ∃ nn : Nat, n = (nn : Int) := ⟨n.toNat, by omega⟩
            by_cases hn : (nn : Int) ≤ C
            · rw [decide_eq_true hn]; exact r2 nn (by omega)
            · obtain rfl : nn = cn := by omega
              rw [decide_eq_false hn]
              exact r3 (by omega)
          have HG := Lib.hid hG
          clear r1 r2 r3 hG hC h0
          go_wp2_with (first
            | (go_at_call 23; refine (RI.out _).mono ?_; rintro e V8 ⟨rfl, hB8⟩; have Q8 := Lib.hid (Q7.out.trans (hB8.mono Q7.out.size)); clear hB8 a0 a1 s0 s1 s2 s3 s4 RI; obtain ⟨a0, a1, s0, s1, s2, s3, s4⟩ := HLD.out V8 Q8.out)
            | (go_at_call 24; refine (RS.out _).mono ?_; rintro e V9 ⟨rfl, hB9⟩; have Q9 := Lib.hid (Q8.out.trans (hB9.mono Q8.out.size)); clear hB9 a0 a1 s0 s1 s2 s3 s4 RS Q8))
          go_loopw [23] (fun i wr => ∃ kk : Int, 0 ≤ kk ∧ kk ≤ C + 2 ∧ i = .int .i64 kk ∧ Hid (Below V3.heap.size V3 wr)) (fun i _ => (C + 2 - intOf i).toNat)
          case atStart => exact ⟨0, by omega, by omega, rfl, Q9⟩
          case round =>
            obtain ⟨kk, hk1, hk2, rfl, hB⟩ := hrel
            obtain ⟨a0, a1, s0, s1, s2, s3, s4⟩ := HLD.out wr hB.out
            by_cases hlt : kk ≤ C + 1
            · by_cases hle : X + kk ≤ 100
              · have DR := Lib.hid (DA.out (X + kk) Y MM wr (pl _ (by omega) (by omega)) (pl _ (by omega) (by omega)) (tm _ (by omega) (by omega)))
                have hv := HG.out kk hk1 hlt hle
                by_cases hkC : kk ≤ C
                · have HV2 := Lib.hid (show geO (drwV T S R (X + kk - X) (Y - Y) MM) LL = true from by rw [hv]; simp [hkC])
                  clear hv
                  go_wp2_with (go_at_call 21; refine DR.out.mono ?_; rintro e V6 ⟨r, rfl, hr, hB6⟩; have g := geX hr HV2.out; have Q6 := Lib.hid (hB.out.trans (hB6.mono hB.out.size)); clear hr hB6 DR HV2 a0 a1 s0 s1 s2 s3 s4)
                  go_roundw
                  case rel => exact ⟨kk + 1, by omega, by omega, by go_num, Q6⟩
                  case measure => simp [intOf]; omega
                · have HV2 := Lib.hid (show geO (drwV T S R (X + kk - X) (Y - Y) MM) LL = false from by rw [hv]; simp [hkC])
                  clear hv
                  go_wp2_with (go_at_call 21; refine DR.out.mono ?_; rintro e V6 ⟨r, rfl, hr, hB6⟩; have g := geX hr HV2.out; have Q6 := Lib.hid (hB.out.trans (hB6.mono hB.out.size)); clear hr hB6 DR HV2 a0 a1 s0 s1 s2 s3 s4)
                  go_roundw
                  case rel => exact ⟨kk + 1, by omega, by omega, by go_num, Q6⟩
                  case measure => simp [intOf]; omega
              · go_wp2
                go_ret
                exact ⟨rfl, GB3.out.trans (hB.out.mono GB3.out.size)⟩
            · go_wp2
              go_ret
              exact ⟨rfl, GB3.out.trans (hB.out.mono GB3.out.size)⟩
  · go_wp2
    go_loopw [13] (fun i wr => ∃ kk : Int, 1 ≤ kk ∧ kk ≤ 40 + 1 ∧ i = .int .i64 kk ∧ Hid (Below V3.heap.size V3 wr)) (fun i _ => (40 + 1 - intOf i).toNat)
    case atStart => exact ⟨1, by omega, by omega, rfl, Q5⟩
    case round =>
      obtain ⟨kk, hk1, hk2, rfl, hB⟩ := hrel
      by_cases hlt : kk ≤ 40
      · obtain ⟨a0, a1, s0, s1, s2, s3, s4⟩ := HLD.out wr hB.out
        have DR := Lib.hid (DA.out xx yy kk wr (pl _ (by omega) (by omega)) (pl _ (by omega) (by omega)) (tm _ (by omega) (by omega)))
        have hv : geO (drwV T S R (xx - X) (yy - Y) kk) LL = (decide ((6 : Int) = 0) && decide (kk = D)) := by
          have := HALL.out kk hk1 hlt
          rw [← HF.out] at this
          exact this
        have HV := Lib.hid hv
        clear hv
        by_cases hkD : kk = D
        · subst hkD
          have HV2 := Lib.hid (show geO (drwV T S R (xx - X) (yy - Y) kk) LL = false from by rw [HV.out]; simp)
          clear HV
          go_wp2_with (go_at_call 21; refine DR.out.mono ?_; rintro e V6 ⟨r, rfl, hr, hB6⟩; have g := geX hr HV2.out; have Q6 := Lib.hid (hB.out.trans (hB6.mono hB.out.size)); clear hr hB6 DR HV2 a0 a1 s0 s1 s2 s3 s4)
          go_roundw
          case rel => exact ⟨kk + 1, by omega, by omega, by go_num, Q6⟩
          case measure => simp [intOf]; omega
        · have HV2 := Lib.hid (show geO (drwV T S R (xx - X) (yy - Y) kk) LL = false from by rw [HV.out]; simp)
          clear HV
          go_wp2_with (go_at_call 21; refine DR.out.mono ?_; rintro e V6 ⟨r, rfl, hr, hB6⟩; have g := geX hr HV2.out; have Q6 := Lib.hid (hB.out.trans (hB6.mono hB.out.size)); clear hr hB6 DR HV2 a0 a1 s0 s1 s2 s3 s4)
          go_roundw
          case rel => exact ⟨kk + 1, by omega, by omega, by go_num, Q6⟩
          case measure => simp [intOf]; omega
      · obtain rfl : kk = 40 + 1 := by omega
        have HQ6 := Lib.hid (HQ5.out.at' hB.out)
        go_upto_region 20 with (go_at_call 22; refine (P6Pick_any q m d 40 HM.out (by omega) (by omega) _ HQ6.out).mono ?_; rintro e V7 ⟨⟨xk, hxk, rfl⟩, hB7⟩; have Q7 := Lib.hid (hB.out.trans (hB7.mono hB.out.size)); clear hB7)
        obtain ⟨MM, hMM⟩ : ∃ MM : Int, 1 + (xk : Int) = MM := ⟨_, rfl⟩
        have hM1 : 1 ≤ MM ∧ MM ≤ 40 := by omega
        simp only [hMM]
        clear hMM hxk hB
        obtain ⟨cn, hcn⟩ : ∃ cn, radN (fun x => geO (drwV T S R (x - X) (Y - Y) MM) LL) (101 - X).toNat X = cn := ⟨_, rfl⟩
        obtain ⟨r1, r2, r3⟩ := radN_first (fun x => geO (drwV T S R (x - X) (Y - Y) MM) LL) (101 - X).toNat X
        rw [hcn] at r1 r2 r3
        have hrV := HR0.out MM (tm _ (by omega) (by omega))
        rw [hcn] at hrV
        have RI := Lib.hid (fun V => implRadiusOf_any T S hT hS X Y R hX8 hY8 MM LL V)
        have RS := Lib.hid (fun V => specRadiusOf_any T S hT hS X Y R hX8 hY8 MM LL V)
        simp only [hrV, Aq, We] at RI RS
        obtain ⟨a0, a1, s0, s1, s2, s3, s4⟩ := HLD.out V7 Q7.out
        clear hcn hrV
        rcases Nat.eq_zero_or_pos cn with h0 | h0
        · subst h0
          simp only [raV, if_pos] at RI RS
          have hz := r3 (by omega)
          simp only [Int.natCast_zero, Int.add_zero] at hz
          have HZ := Lib.hid hz
          have DR := Lib.hid (fun V => DA.out X Y MM V (pl _ (by omega) (by omega)) (pl _ (by omega) (by omega)) (tm _ (by omega) (by omega)))
          clear r1 r2 r3 hz
          go_wp2_with (first
            | (go_at_call 23; refine (RI.out _).mono ?_; rintro e V8 ⟨rfl, hB8⟩; have Q8 := Lib.hid (Q7.out.trans (hB8.mono Q7.out.size)); clear hB8 a0 a1 s0 s1 s2 s3 s4 RI; obtain ⟨a0, a1, s0, s1, s2, s3, s4⟩ := HLD.out V8 Q8.out)
            | (go_at_call 24; refine (RS.out _).mono ?_; rintro e V9 ⟨rfl, hB9⟩; have Q9 := Lib.hid (Q8.out.trans (hB9.mono Q8.out.size)); clear hB9 a0 a1 s0 s1 s2 s3 s4 RS; obtain ⟨a0, a1, s0, s1, s2, s3, s4⟩ := HLD.out V9 Q9.out)
            | (go_at_call 21; refine (DR.out _).mono ?_; rintro e Va ⟨r, rfl, hr, hBa⟩; have g := geX hr HZ.out; have Qa := Lib.hid (Q9.out.trans (hBa.mono Q9.out.size)); clear hBa hr a0 a1 s0 s1 s2 s3 s4))
          go_ret
          exact ⟨rfl, GB3.out.trans (Qa.out.mono GB3.out.size)⟩
        · obtain ⟨C, hC⟩ : ∃ C : Int, (cn : Int) - 1 = C := ⟨_, rfl⟩
          have hC0 : 0 ≤ C ∧ C ≤ 101 := by omega
          simp only [raV, if_neg (show ¬ cn = 0 by omega), hC] at RI RS
          have hG : ∀ n : Int, 0 ≤ n → n ≤ C + 1 → X + n ≤ 100 → geO (drwV T S R (X + n - X) (Y - Y) MM) LL = decide (n ≤ C) := fun n n1 n2 n3 => by
            obtain ⟨nn, rfl⟩ : ∃ nn : Nat, n = (nn : Int) := ⟨n.toNat, by omega⟩
            by_cases hn : (nn : Int) ≤ C
            · rw [decide_eq_true hn]; exact r2 nn (by omega)
            · obtain rfl : nn = cn := by omega
              rw [decide_eq_false hn]
              exact r3 (by omega)
          have HG := Lib.hid hG
          clear r1 r2 r3 hG hC h0
          go_wp2_with (first
            | (go_at_call 23; refine (RI.out _).mono ?_; rintro e V8 ⟨rfl, hB8⟩; have Q8 := Lib.hid (Q7.out.trans (hB8.mono Q7.out.size)); clear hB8 a0 a1 s0 s1 s2 s3 s4 RI; obtain ⟨a0, a1, s0, s1, s2, s3, s4⟩ := HLD.out V8 Q8.out)
            | (go_at_call 24; refine (RS.out _).mono ?_; rintro e V9 ⟨rfl, hB9⟩; have Q9 := Lib.hid (Q8.out.trans (hB9.mono Q8.out.size)); clear hB9 a0 a1 s0 s1 s2 s3 s4 RS Q8))
          go_loopw [23] (fun i wr => ∃ kk : Int, 0 ≤ kk ∧ kk ≤ C + 2 ∧ i = .int .i64 kk ∧ Hid (Below V3.heap.size V3 wr)) (fun i _ => (C + 2 - intOf i).toNat)
          case atStart => exact ⟨0, by omega, by omega, rfl, Q9⟩
          case round =>
            obtain ⟨kk, hk1, hk2, rfl, hB⟩ := hrel
            obtain ⟨a0, a1, s0, s1, s2, s3, s4⟩ := HLD.out wr hB.out
            by_cases hlt : kk ≤ C + 1
            · by_cases hle : X + kk ≤ 100
              · have DR := Lib.hid (DA.out (X + kk) Y MM wr (pl _ (by omega) (by omega)) (pl _ (by omega) (by omega)) (tm _ (by omega) (by omega)))
                have hv := HG.out kk hk1 hlt hle
                by_cases hkC : kk ≤ C
                · have HV2 := Lib.hid (show geO (drwV T S R (X + kk - X) (Y - Y) MM) LL = true from by rw [hv]; simp [hkC])
                  clear hv
                  go_wp2_with (go_at_call 21; refine DR.out.mono ?_; rintro e V6 ⟨r, rfl, hr, hB6⟩; have g := geX hr HV2.out; have Q6 := Lib.hid (hB.out.trans (hB6.mono hB.out.size)); clear hr hB6 DR HV2 a0 a1 s0 s1 s2 s3 s4)
                  go_roundw
                  case rel => exact ⟨kk + 1, by omega, by omega, by go_num, Q6⟩
                  case measure => simp [intOf]; omega
                · have HV2 := Lib.hid (show geO (drwV T S R (X + kk - X) (Y - Y) MM) LL = false from by rw [hv]; simp [hkC])
                  clear hv
                  go_wp2_with (go_at_call 21; refine DR.out.mono ?_; rintro e V6 ⟨r, rfl, hr, hB6⟩; have g := geX hr HV2.out; have Q6 := Lib.hid (hB.out.trans (hB6.mono hB.out.size)); clear hr hB6 DR HV2 a0 a1 s0 s1 s2 s3 s4)
                  go_roundw
                  case rel => exact ⟨kk + 1, by omega, by omega, by go_num, Q6⟩
                  case measure => simp [intOf]; omega
              · go_wp2
                go_ret
                exact ⟨rfl, GB3.out.trans (hB.out.mono GB3.out.size)⟩
            · go_wp2
              go_ret
              exact ⟨rfl, GB3.out.trans (hB.out.mono GB3.out.size)⟩

set_option maxRecDepth 100000 in
theorem fnReach_far1 (p q : Option Addr) (n c m d : Nat) (hn : 4096 < n) (hx : n ≤ maxLen) (w : World) : Calls Try.prog 3 #[.slice p n c, .slice q m d] w fun e w' => e = .returned (.bool true) ∧ Below w.heap.size w w' := by
  have F1 := fun V => f6big_any p n c hx V
  rw [show decide ((4096 : Int) < n) = true by simp; omega] at F1
  clear hn hx
  go_enter Try.func3, Try.ntmps3
  go_wp2_with (go_at_call 15; refine (F1 _).mono ?_; rintro e V ⟨rfl, hV⟩; rw [hV]; clear hV)
  go_ret
  exact ⟨rfl, Below.refl _ _⟩
set_option maxRecDepth 100000 in
theorem fnReach_far2 (p q : Option Addr) (n c m d : Nat) (hn : n ≤ 4096) (hm : 4096 < m) (hx : m ≤ maxLen) (w : World) : Calls Try.prog 3 #[.slice p n c, .slice q m d] w fun e w' => e = .returned (.bool true) ∧ Below w.heap.size w w' := by
  have F1 := fun V => f6big_any p n c (by unfold maxLen; omega) V
  have F2 := fun V => f6big_any q m d hx V
  rw [show decide ((4096 : Int) < n) = false by simp; omega] at F1
  rw [show decide ((4096 : Int) < m) = true by simp; omega] at F2
  clear hn hm hx
  have t1 : True := trivial
  go_enter Try.func3, Try.ntmps3
  go_wp2_with (first | (have _t := t1; go_at_call 15; refine (F1 _).mono ?_; rintro e V ⟨rfl, hV⟩; rw [hV]; clear hV t1) | (go_at_call 15; refine (F2 _).mono ?_; rintro e V ⟨rfl, hV⟩; rw [hV]; clear hV))
  go_ret
  exact ⟨rfl, Below.refl _ _⟩
end Go.Proofs.Ythklihenghnaeaa
