/- SettleGround: the program's and the model's. (The program's: the table of math/bits is laid.) No condition. -/
import Derived.Test.YtaghnminpfgdcaaGreatDoorSwB
namespace Go.Proofs.YtaghnminpfgdcaaGreatDoor
open Go.RowKit Go.Shelf
attribute [local go_sem] Oper.semAt_some run_store_float
set_option linter.unusedSimpArgs false
set_option linter.unusedVariables false

theorem results_gii {P : Program} {fn : Func} {p q r : Tmp} {ty : TypeId} {D : TypeDesc} (h : fn.results = #[.cell p ty, .tmp q, .tmp r]) (tmps : Array Value) (w : World) (b : Nat) (G : Gd) (m n : Int)
    (hp : tmps.getD p undef = .pointer (some ⟨b, 0, none⟩)) (hq : tmps.getD q undef = .int .i64 m) (hr : tmps.getD r undef = .int .i64 n) (hc : w.rangeAt b 0 (GrdL G))
    (hu : P.underlying ty = some D) (hd : D.isRow = true) (hi : (P.info? ty).map (·.size) = some 195) :
    (results fn tmps).run P w = .ok (.tuple #[.agg (Grd G), .int .i64 m, .int .i64 n]) w := by
  have hp' : tmps[p]?.getD undef = .pointer (some ⟨b, 0, none⟩) := by simpa using hp
  have hq' : tmps[q]?.getD undef = .int .i64 m := by simpa using hq
  have hr' : tmps[r]?.getD undef = .int .i64 n := by simpa using hr
  have := run_loadVar_mid (P := P) w b 0 ty (GrdL G) D hc hu hd (by rw [GrdL_length]; exact hi)
  simp [results, h, hp', hq', hr', asAddr, this, Grd]
/-- Sweeps until heads are still: so many more at most, the next one being number t. -/
def settR (x : Nat) : Nat → Int → Gd → Gd × Int × Int
  | 0, _, _ => (zG, 0, 7)
  | n + 1, t, G => if (swF headO G).2.1 = true then (if leX (swF headO G).2.2 x = true then ((swF headO G).1, t, 0) else settR x n (t + 1) (swF headO G).1) else (zG, 0, 4)
def budB (y : Int) : Bool := decide (0 ≤ y) && decide (y ≤ 2000)
def tripV (r : Gd × Int × Int) : Value := .tuple #[.agg (Grd r.1), .int .i64 r.2.1, .int .i64 r.2.2]
def setR (G : Gd) (x : Nat) (y : Int) : Gd × Int × Int := if validB G = true then (if (amtB x && budB y) = true then settR x y.toNat 1 G else (zG, 0, 2)) else (zG, 0, 1)
def setV (G : Gd) (x : Nat) (y : Int) : Value := tripV (setR G x y)
theorem setV_is (G : Gd) (x : Nat) (y : Int) : ∃ (A : Gd) (m : Int) (n : Int), setV G x y = .tuple #[.agg (Grd A), .int .i64 m, .int .i64 n] := ⟨_, _, _, rfl⟩
theorem settR_no {x n : Nat} {t : Int} {G : Gd} (h : (swF headO G).2.1 = false) : settR x (n + 1) t G = (zG, 0, 4) := by simp [settR, h]
theorem settR_end {x n : Nat} {t : Int} {G : Gd} (h : (swF headO G).2.1 = true) (hl : leX (swF headO G).2.2 x = true) : settR x (n + 1) t G = ((swF headO G).1, t, 0) := by simp [settR, h, hl]
theorem settR_on {x n : Nat} {t : Int} {G : Gd} (h : (swF headO G).2.1 = true) (hl : leX (swF headO G).2.2 x = false) : settR x (n + 1) t G = settR x n (t + 1) (swF headO G).1 := by simp [settR, h, hl]
/-- Two numbers, none of them a NaN: one is greater, or at most the other one. -/
theorem gt_le {m x : Nat} (hm : nanK .f32 m = false) (hx : plainB x = true) : (FloatKind.f32.format.order m x == some Ordering.gt) = !leX m x := by
  have hx2 : nanK .f32 x = false := by
    cases h : nanK .f32 x
    · rfl
    · rw [plain_nan h] at hx; cases hx
  obtain ⟨o, ho⟩ : ∃ o, FloatKind.f32.format.order m x = some o := by
    rw [nanK_read] at hm hx2
    unfold Ieee.Format.order
    cases h1 : FloatKind.f32.format.read m <;> cases h2 : FloatKind.f32.format.read x <;> simp_all [Ieee.Datum.isNaN, Ieee.Datum.order]
  unfold leX
  rw [ho]
  cases o <;> rfl
theorem lee_plain {x : Nat} (h : amtB x = true) : plainB x = true := by
  simp only [amtB, Bool.and_eq_true] at h
  exact h.1

set_option maxRecDepth 100000 in
set_option maxHeartbeats 2000000 in
theorem isBudget_is (y : Int) (r : Bool) (h : budB y = r) (w : World) : Calls Tryz.prog 118 #[.int .i64 y] w fun e w' => e = .returned (.bool r) ∧ w = w' := by
  subst h
  by_cases h1 : 0 ≤ y
  · by_cases h2 : y ≤ 2000
    · rw [show budB y = true by simp [budB, h1, h2]]
      go_enter Tryz.func118, Tryz.ntmps118
      go_wp2
      go_ret
      exact ⟨rfl, rfl⟩
    · rw [show budB y = false by simp [budB, h2]]
      go_enter Tryz.func118, Tryz.ntmps118
      go_wp2
      go_ret
      exact ⟨rfl, rfl⟩
  · rw [show budB y = false by simp [budB, h1]]
    go_enter Tryz.func118, Tryz.ntmps118
    go_wp2
    go_ret
    exact ⟨rfl, rfl⟩

set_option maxRecDepth 100000 in
set_option maxHeartbeats 2000000 in
theorem implSettle_any (G : Gd) (x : Nat) (y : Int) (w : World) (hG : GdOk G) (hT : TabAt w) :
    Calls Tryz.prog 88 #[.agg (Grd G), .float .f32 x, .int .i64 y] w fun e w' => e = .returned (setV G x y) ∧ Below w.heap.size w w' := by
  have hz := (zero_of_info zeroGround).1
  go_enter Tryz.func88, Tryz.ntmps88
  go_upto_region 1 with (fail)
  obtain ⟨W, hW, zW, g1, g2, hB⟩ := gbox2 G zG 36 36 w
  rw [hW]
  clear hW
  have r1 := g1.range
  have G1 := Lib.hid g1
  have G2 := Lib.hid g2
  have HB := Lib.hid hB
  have HG := Lib.hid hG
  have HT := Lib.hid hT
  have TW := Lib.hid (hT.below hB (tab_lt hT))
  have hl : w.heap.size + 1 < W.heap.size := by omega
  clear zW g1 g2 hB hG hT
  go_step3
  cases hv : validB G
  · have Hv := Lib.hid hv
    have HE := Lib.hid (show setR G x y = (zG, 0, 1) by simp [setR, hv])
    clear hv
    go_wp2_with (first | (refine ld_stage 36 rfl ?_; refine wpList_load_mid rfl 36 _ rfl (w.heap.size) 0 rfl (GrdL (G)) _ r1 Tryz.underlying36 rfl (by rw [GrdL_length]; exact infoGround) ?_) | (go_at_call 116; have hc := (validGround_any G W HG.out TW.out (tab_lt TW.out)); rw [Hv.out] at hc; refine hc.mono ?_; clear hc; rintro e V ⟨rfl, hb1⟩; have P1 := Lib.hid (G1.out.below hb1 (by omega)); have P2 := Lib.hid (G2.out.below hb1 hl); have tt := P2.out.there; have B1 := Lib.hid (HB.out.trans (hb1.mono (by omega))); clear hb1) | (refine st_stage 36 rfl ?_; refine wpList_store_mid rfl 36 _ _ rfl _ 0 (Grd (zG)) rfl rfl (by rw [Grd_size]; with_reducible exact tt) (by rw [Grd_size]; exact infoGround) (Grd_one _) ?_))
    try rw [Exit.noGoto_ret]
    refine bodyPost_ret (results_gii rfl _ _ _ zG 0 1 rfl rfl rfl P2.out.store.range Tryz.underlying36 rfl infoG195) rfl ⟨by unfold setV; rw [HE.out]; rfl, below_setCells _ (by omega) _ _ _ B1.out⟩
  · have Hv := Lib.hid hv
    cases hx : amtB x
    · have Hx := Lib.hid hx
      have HE := Lib.hid (show setR G x y = (zG, 0, 2) by simp [setR, hv, hx])
      clear hv hx
      go_wp2_with (first | (refine ld_stage 36 rfl ?_; refine wpList_load_mid rfl 36 _ rfl (w.heap.size) 0 rfl (GrdL (G)) _ r1 Tryz.underlying36 rfl (by rw [GrdL_length]; exact infoGround) ?_) | (go_at_call 116; have hc := (validGround_any G W HG.out TW.out (tab_lt TW.out)); rw [Hv.out] at hc; refine hc.mono ?_; clear hc; rintro e V ⟨rfl, hb1⟩; have P1 := Lib.hid (G1.out.below hb1 (by omega)); have P2 := Lib.hid (G2.out.below hb1 hl); have tt := P2.out.there; have B1 := Lib.hid (HB.out.trans (hb1.mono (by omega))); clear hb1) | (go_at_call 117; refine (isAmount_is x false Hx.out _).mono ?_; rintro e w' ⟨rfl, rfl⟩) | (refine st_stage 36 rfl ?_; refine wpList_store_mid rfl 36 _ _ rfl _ 0 (Grd (zG)) rfl rfl (by rw [Grd_size]; with_reducible exact tt) (by rw [Grd_size]; exact infoGround) (Grd_one _) ?_))
      try rw [Exit.noGoto_ret]
      refine bodyPost_ret (results_gii rfl _ _ _ zG 0 2 rfl rfl rfl P2.out.store.range Tryz.underlying36 rfl infoG195) rfl ⟨by unfold setV; rw [HE.out]; rfl, below_setCells _ (by omega) _ _ _ B1.out⟩
    · have Hx := Lib.hid hx
      cases hy : budB y
      · have Hy := Lib.hid hy
        have HE := Lib.hid (show setR G x y = (zG, 0, 2) by simp [setR, hv, hx, hy])
        clear hv hx hy
        go_wp2_with (first | (refine ld_stage 36 rfl ?_; refine wpList_load_mid rfl 36 _ rfl (w.heap.size) 0 rfl (GrdL (G)) _ r1 Tryz.underlying36 rfl (by rw [GrdL_length]; exact infoGround) ?_) | (go_at_call 116; have hc := (validGround_any G W HG.out TW.out (tab_lt TW.out)); rw [Hv.out] at hc; refine hc.mono ?_; clear hc; rintro e V ⟨rfl, hb1⟩; have P1 := Lib.hid (G1.out.below hb1 (by omega)); have P2 := Lib.hid (G2.out.below hb1 hl); have tt := P2.out.there; have B1 := Lib.hid (HB.out.trans (hb1.mono (by omega))); clear hb1) | (go_at_call 117; refine (isAmount_is x true Hx.out _).mono ?_; rintro e w' ⟨rfl, rfl⟩) | (go_at_call 118; refine (isBudget_is y false Hy.out _).mono ?_; rintro e w' ⟨rfl, rfl⟩) | (refine st_stage 36 rfl ?_; refine wpList_store_mid rfl 36 _ _ rfl _ 0 (Grd (zG)) rfl rfl (by rw [Grd_size]; with_reducible exact tt) (by rw [Grd_size]; exact infoGround) (Grd_one _) ?_))
        try rw [Exit.noGoto_ret]
        refine bodyPost_ret (results_gii rfl _ _ _ zG 0 2 rfl rfl rfl P2.out.store.range Tryz.underlying36 rfl infoG195) rfl ⟨by unfold setV; rw [HE.out]; rfl, below_setCells _ (by omega) _ _ _ B1.out⟩
      · have Hy := Lib.hid hy
        obtain ⟨m, rfl⟩ : ∃ m : Nat, y = (m : Int) := ⟨y.toNat, by simp [budB] at hy; omega⟩
        have hm : m ≤ 2000 := by simp [budB] at hy; omega
        obtain ⟨R, hR⟩ : ∃ R, settR x m 1 G = R := ⟨_, rfl⟩
        have HE := Lib.hid (show setR G x (m : Int) = R by rw [← hR]; simp [setR, hv, hx, hy])
        have HR := Lib.hid hR
        clear hv hx hy hR
        go_wp2_with (first | (refine ld_stage 36 rfl ?_; refine wpList_load_mid rfl 36 _ rfl (w.heap.size) 0 rfl (GrdL (G)) _ r1 Tryz.underlying36 rfl (by rw [GrdL_length]; exact infoGround) ?_) | (go_at_call 116; have hc := (validGround_any G W HG.out TW.out (tab_lt TW.out)); rw [Hv.out] at hc; refine hc.mono ?_; clear hc; rintro e V ⟨rfl, hb1⟩; have P1 := Lib.hid (G1.out.below hb1 (by omega)); have P2 := Lib.hid (G2.out.below hb1 hl); have tt := P2.out.there; have B1 := Lib.hid (HB.out.trans (hb1.mono (by omega))); clear hb1) | (go_at_call 117; refine (isAmount_is x true Hx.out _).mono ?_; rintro e w' ⟨rfl, rfl⟩) | (go_at_call 118; refine (isBudget_is (m : Int) true Hy.out _).mono ?_; rintro e w' ⟨rfl, rfl⟩))
        go_step3
        go_wp2
        clear r1 tt
        have HX := Lib.hid (lee_plain Hx.out)
        go_loopw [9] (fun i wr => ∃ (k : Nat) (K : Gd), k ≤ m ∧ i = .int .i64 ((k : Int) + 1) ∧ Hid (validB K = true ∧ GdOk K) ∧ Hid (settR x (m - k) ((k : Int) + 1) K = R) ∧ Hid (GBox wr w.heap.size K) ∧ Hid (GBox wr (w.heap.size + 1) zG) ∧ Hid (Below w.heap.size w wr)) (fun i _ => m + 1 - (intOf i).toNat)
        case atStart => exact ⟨0, G, by omega, rfl, Lib.hid ⟨Hv.out, HG.out⟩, HR, P1, P2, B1⟩
        case round =>
          clear P1 P2 B1
          obtain ⟨k, K, hk, rfl, HV, hU, Q1, Q2, QB⟩ := hrel
          have TR := Lib.hid (HT.out.below QB.out (tab_lt HT.out))
          have zr := Q2.out.lt
          have t2 := Q2.out.there
          by_cases hlt : k < m
          · have hle : (k : Int) + 1 ≤ (m : Int) := by omega
            have r1 := Q1.out.range
            obtain ⟨j, hj⟩ : ∃ j, m - k = j + 1 := ⟨m - k - 1, by omega⟩
            have hU := hU.out
            rw [hj] at hU
            cases hs : (swF headO K).2.1
            · have HU := Lib.hid ((settR_no hs).symm.trans hU)
              have HA := Lib.hid (show sweptV headO K = .tuple #[.agg (Grd zG), .float .f32 0, .int .i64 4] from sweptV_no hs)
              clear hU hs t2
              go_wp2_with (first | (refine ld_stage 36 rfl ?_; refine wpList_load_mid rfl 36 _ rfl (w.heap.size) 0 rfl (GrdL (K)) _ r1 Tryz.underlying36 rfl (by rw [GrdL_length]; exact infoGround) ?_) | (go_at_call 119; have hc := sweptOrder_any K wr HV.out.1 HV.out.2 TR.out; rw [HA.out] at hc; refine hc.mono ?_; clear hc; rintro e V1 ⟨rfl, hV1⟩; have S1 := Lib.hid (Q1.out.below hV1 Q1.out.lt); have S2 := Lib.hid (Q2.out.below hV1 Q2.out.lt); have SB := Lib.hid (QB.out.trans (hV1.mono (by omega))); have zz := hV1.size; clear hV1) | (refine st_stage 36 rfl ?_; refine wpList_store_mid rfl 36 _ _ rfl _ 0 (Grd zG) rfl rfl (by rw [Grd_size]; with_reducible exact new_thereG _ V1) (by rw [Grd_size]; exact infoGround) (Grd_one _) ?_; obtain ⟨X1, hX, zX1, gX1, bX1⟩ := stored_box zG 36 V1; rw [hX]; have R0 := Lib.hid gX1; have R1 := Lib.hid (S1.out.below bX1 S1.out.lt); have R2 := Lib.hid (S2.out.below bX1 S2.out.lt); have RB := Lib.hid (SB.out.trans (bX1.mono (by omega))); have r0 := gX1.range; have t1 := R1.out.there; have t2 := R2.out.there; clear hX zX1 gX1 bX1) | (refine st_stage 36 rfl ?_; refine wpList_store_mid rfl 36 _ _ rfl _ 0 (Grd (zG)) rfl rfl (by rw [Grd_size]; with_reducible exact t2) (by rw [Grd_size]; exact infoGround) (Grd_one _) ?_))
              try rw [Exit.noGoto_ret]
              refine bodyPost_ret (results_gii rfl _ _ _ zG 0 4 rfl rfl rfl R2.out.store.range Tryz.underlying36 rfl infoG195) rfl ⟨by unfold setV; rw [HE.out, ← HU.out]; rfl, below_setCells _ (by omega) _ _ _ RB.out⟩
            · obtain ⟨s1, s2⟩ := swF_size HV.out.1 HV.out.2 hs
              obtain ⟨vA, oA⟩ := swF_valid HV.out.1 HV.out.2 hs
              have VA := Lib.hid (And.intro vA oA)
              have HA := Lib.hid (sweptV_yes hs)
              cases hle2 : leX (swF headO K).2.2 x
              · have HU := Lib.hid ((settR_on hs hle2).symm.trans hU)
                have hgt : (FloatKind.f32.format.order (swF headO K).2.2 x == some Ordering.gt) = true := by rw [gt_le s1 HX.out, hle2]; rfl
                clear hU hs hle2 s1 s2 vA oA t2
                generalize (swF headO K).1 = A at HA HU VA
                generalize (swF headO K).2.2 = c at HA hgt
                go_wp2_with (first | (refine ld_stage 36 rfl ?_; refine wpList_load_mid rfl 36 _ rfl (w.heap.size) 0 rfl (GrdL (K)) _ r1 Tryz.underlying36 rfl (by rw [GrdL_length]; exact infoGround) ?_) | (refine ld_stage 36 rfl ?_; refine wpList_load_mid rfl 36 _ rfl (V1.heap.size) 0 rfl (GrdL (A)) _ r0 Tryz.underlying36 rfl (by rw [GrdL_length]; exact infoGround) ?_) | (go_at_call 119; have hc := sweptOrder_any K wr HV.out.1 HV.out.2 TR.out; rw [HA.out] at hc; refine hc.mono ?_; clear hc; rintro e V1 ⟨rfl, hV1⟩; have S1 := Lib.hid (Q1.out.below hV1 Q1.out.lt); have S2 := Lib.hid (Q2.out.below hV1 Q2.out.lt); have SB := Lib.hid (QB.out.trans (hV1.mono (by omega))); have zz := hV1.size; clear hV1) | (refine st_stage 36 rfl ?_; refine wpList_store_mid rfl 36 _ _ rfl _ 0 (Grd A) rfl rfl (by rw [Grd_size]; with_reducible exact new_thereG _ V1) (by rw [Grd_size]; exact infoGround) (Grd_one _) ?_; obtain ⟨X1, hX, zX1, gX1, bX1⟩ := stored_box A 36 V1; rw [hX]; have R0 := Lib.hid gX1; have R1 := Lib.hid (S1.out.below bX1 S1.out.lt); have R2 := Lib.hid (S2.out.below bX1 S2.out.lt); have RB := Lib.hid (SB.out.trans (bX1.mono (by omega))); have r0 := gX1.range; have t1 := R1.out.there; have t2 := R2.out.there; clear hX zX1 gX1 bX1) | (refine st_stage 36 rfl ?_; refine wpList_store_mid rfl 36 _ _ rfl _ 0 (Grd (A)) rfl rfl (by rw [Grd_size]; with_reducible exact t1) (by rw [Grd_size]; exact infoGround) (Grd_one _) ?_))
                go_roundw
                case rel => exact ⟨k + 1, A, by omega, by go_num, VA, Lib.hid (by rw [show m - (k + 1) = j by omega]; exact HU.out), Lib.hid R1.out.store, Lib.hid (R2.out.fars (by omega)), Lib.hid (below_setCells _ (by omega) _ _ _ RB.out)⟩
                case measure => simp [intOf]; omega
              · have HU := Lib.hid ((settR_end hs hle2).symm.trans hU)
                have hgt : (FloatKind.f32.format.order (swF headO K).2.2 x == some Ordering.gt) = false := by rw [gt_le s1 HX.out, hle2]; rfl
                clear hU hs hle2 s1 s2 vA oA t2
                generalize (swF headO K).1 = A at HA HU VA
                generalize (swF headO K).2.2 = c at HA hgt
                go_wp2_with (first | (refine ld_stage 36 rfl ?_; refine wpList_load_mid rfl 36 _ rfl (w.heap.size) 0 rfl (GrdL (K)) _ r1 Tryz.underlying36 rfl (by rw [GrdL_length]; exact infoGround) ?_) | (refine ld_stage 36 rfl ?_; refine wpList_load_mid rfl 36 _ rfl (V1.heap.size) 0 rfl (GrdL (A)) _ r0 Tryz.underlying36 rfl (by rw [GrdL_length]; exact infoGround) ?_) | (go_at_call 119; have hc := sweptOrder_any K wr HV.out.1 HV.out.2 TR.out; rw [HA.out] at hc; refine hc.mono ?_; clear hc; rintro e V1 ⟨rfl, hV1⟩; have S1 := Lib.hid (Q1.out.below hV1 Q1.out.lt); have S2 := Lib.hid (Q2.out.below hV1 Q2.out.lt); have SB := Lib.hid (QB.out.trans (hV1.mono (by omega))); have zz := hV1.size; clear hV1) | (refine st_stage 36 rfl ?_; refine wpList_store_mid rfl 36 _ _ rfl _ 0 (Grd A) rfl rfl (by rw [Grd_size]; with_reducible exact new_thereG _ V1) (by rw [Grd_size]; exact infoGround) (Grd_one _) ?_; obtain ⟨X1, hX, zX1, gX1, bX1⟩ := stored_box A 36 V1; rw [hX]; have R0 := Lib.hid gX1; have R1 := Lib.hid (S1.out.below bX1 S1.out.lt); have R2 := Lib.hid (S2.out.below bX1 S2.out.lt); have RB := Lib.hid (SB.out.trans (bX1.mono (by omega))); have r0 := gX1.range; have t1 := R1.out.there; have t2 := R2.out.there; clear hX zX1 gX1 bX1) | (refine st_stage 36 rfl ?_; refine wpList_store_mid rfl 36 _ _ rfl _ 0 (Grd (A)) rfl rfl (by rw [Grd_size]; with_reducible exact t2) (by rw [Grd_size]; exact infoGround) (Grd_one _) ?_))
                try rw [Exit.noGoto_ret]
                refine bodyPost_ret (results_gii rfl _ _ _ A ((k : Int) + 1) 0 rfl rfl rfl R2.out.store.range Tryz.underlying36 rfl infoG195) rfl ⟨by unfold setV; rw [HE.out, ← HU.out]; rfl, below_setCells _ (by omega) _ _ _ RB.out⟩
          · obtain rfl : k = m := by omega
            have hle : ¬ (k : Int) + 1 ≤ (k : Int) := by omega
            have hU := hU.out
            rw [Nat.sub_self] at hU
            have HU := Lib.hid (show (zG, 0, 7) = R from hU)
            clear hU
            go_wp2_with (refine st_stage 36 rfl ?_; refine wpList_store_mid rfl 36 _ _ rfl _ 0 (Grd (zG)) rfl rfl (by rw [Grd_size]; with_reducible exact t2) (by rw [Grd_size]; exact infoGround) (Grd_one _) ?_)
            try rw [Exit.noGoto_ret]
            refine bodyPost_ret (results_gii rfl _ _ _ zG 0 7 rfl rfl rfl Q2.out.store.range Tryz.underlying36 rfl infoG195) rfl ⟨by unfold setV; rw [HE.out, ← HU.out]; rfl, below_setCells _ (by omega) _ _ _ QB.out⟩

set_option maxRecDepth 100000 in
set_option maxHeartbeats 2000000 in
theorem l02Settle_any (G : Gd) (x m : Nat) (hm : m ≤ 2000) (hx : plainB x = true) (p : Nat) (w : World) (hp : GBox w p G) (hv : validB G = true) (hG : GdOk G) :
    Calls Tryz.prog 83 #[.pointer (some ⟨p, 0, none⟩), .float .f32 x, .int .i64 (m : Int)] w fun e w' => e = .returned (tripV (settR x m 1 G)) ∧ Below w.heap.size w w' := by
  obtain ⟨R, hR⟩ : ∃ R, settR x m 1 G = R := ⟨_, rfl⟩
  rw [hR]
  have hz := (zero_of_info zeroGround).1
  have hpl := hp.lt
  go_enter Tryz.func83, Tryz.ntmps83
  go_upto_region 1 with (fail)
  obtain ⟨V, hV, zV, g1, hB⟩ := gbox1 zG 36 w
  rw [hV]
  clear hV
  have zv : w.heap.size < V.heap.size := by omega
  clear zV
  have gP := hp.below hB hpl
  have G2 := Lib.hid g1
  have HB := Lib.hid hB
  have HVV := Lib.hid (And.intro hv hG)
  have HX := Lib.hid hx
  have HR := Lib.hid hR
  have r1 := gP.range
  have hnt := new_thereG 36 V
  clear g1 hB hG hv hp gP hx hR
  go_upto_region 2 with (first | (refine ld_stage 36 rfl ?_; refine wpList_load_mid rfl 36 _ rfl (p) 0 rfl (GrdL (G)) _ r1 Tryz.underlying36 rfl (by rw [GrdL_length]; exact infoGround) ?_) | (refine st_stage 36 rfl ?_; refine wpList_store_mid rfl 36 _ _ rfl _ 0 (Grd (G)) rfl rfl (by rw [Grd_size]; with_reducible exact hnt) (by rw [Grd_size]; exact infoGround) (Grd_one _) ?_))
  obtain ⟨U, hU, zU, gU, bU⟩ := stored_box G 36 V
  rw [hU]
  have P2 := Lib.hid (G2.out.below bU (by omega))
  have P0 := Lib.hid gU
  have PB := Lib.hid (HB.out.trans (bU.mono (by omega)))
  clear r1 hnt hU zU gU bU
  go_wp2
  go_loopw [10] (fun i wr => ∃ (k : Nat) (K : Gd), k ≤ m ∧ i = .int .i64 ((k : Int) + 1) ∧ Hid (validB K = true ∧ GdOk K) ∧ Hid (settR x (m - k) ((k : Int) + 1) K = R) ∧ Hid (GBox wr V.heap.size K) ∧ Hid (GBox wr w.heap.size zG) ∧ Hid (Below w.heap.size w wr)) (fun i _ => m + 1 - (intOf i).toNat)
  case atStart => exact ⟨0, G, by omega, rfl, HVV, HR, P0, P2, PB⟩
  case round =>
    clear P0 P2 PB
    obtain ⟨k, K, hk, rfl, HV, hU, Q1, Q2, QB⟩ := hrel
    have zr := Q1.out.lt
    have t2 := Q2.out.there
    by_cases hlt : k < m
    · have hle : (k : Int) + 1 ≤ (m : Int) := by omega
      obtain ⟨j, hj⟩ : ∃ j, m - k = j + 1 := ⟨m - k - 1, by omega⟩
      have hU := hU.out
      rw [hj] at hU
      cases hs : (swF headO K).2.1
      · have HU := Lib.hid ((settR_no hs).symm.trans hU)
        have HA := Lib.hid (show sweptV headO K = .tuple #[.agg (Grd zG), .float .f32 0, .int .i64 4] from sweptV_no hs)
        clear hU hs t2
        go_wp2_with (first | (go_at_call 113; have hc := l02Sweep_any K (-1) (.inl rfl) V.heap.size wr Q1.out HV.out.1 HV.out.2; rw [nxC_all, HA.out] at hc; refine hc.mono ?_; clear hc; rintro e V1 ⟨rfl, hV1⟩; have S1 := Lib.hid (Q1.out.below hV1 Q1.out.lt); have S2 := Lib.hid (Q2.out.below hV1 Q2.out.lt); have SB := Lib.hid (QB.out.trans (hV1.mono (by omega))); have zz := hV1.size; clear hV1) | (refine st_stage 36 rfl ?_; refine wpList_store_mid rfl 36 _ _ rfl _ 0 (Grd zG) rfl rfl (by rw [Grd_size]; with_reducible exact new_thereG _ V1) (by rw [Grd_size]; exact infoGround) (Grd_one _) ?_; obtain ⟨X1, hX, zX1, gX1, bX1⟩ := stored_box zG 36 V1; rw [hX]; have R0 := Lib.hid gX1; have R1 := Lib.hid (S1.out.below bX1 S1.out.lt); have R2 := Lib.hid (S2.out.below bX1 S2.out.lt); have RB := Lib.hid (SB.out.trans (bX1.mono (by omega))); have r0 := gX1.range; have t1 := R1.out.there; have t2 := R2.out.there; clear hX zX1 gX1 bX1) | (refine st_stage 36 rfl ?_; refine wpList_store_mid rfl 36 _ _ rfl _ 0 (Grd (zG)) rfl rfl (by rw [Grd_size]; with_reducible exact t2) (by rw [Grd_size]; exact infoGround) (Grd_one _) ?_))
        refine bodyPost_ret (results_gii rfl _ _ _ zG 0 4 rfl rfl rfl R2.out.store.range Tryz.underlying36 rfl infoG195) rfl ⟨by rw [← HU.out]; rfl, below_setCells _ (by omega) _ _ _ RB.out⟩
      · obtain ⟨vA, oA⟩ := swF_valid HV.out.1 HV.out.2 hs
        have VA := Lib.hid (And.intro vA oA)
        have HA := Lib.hid (sweptV_yes hs)
        cases hle2 : leX (swF headO K).2.2 x
        · have HU := Lib.hid ((settR_on hs hle2).symm.trans hU)
          have hle3 : (FloatKind.f32.format.order (swF headO K).2.2 x == some Ordering.lt || FloatKind.f32.format.order (swF headO K).2.2 x == some Ordering.eq) = false := hle2
          clear hU hs hle2 vA oA t2
          generalize (swF headO K).1 = A at HA HU VA
          generalize (swF headO K).2.2 = c at HA hle3
          go_wp2_with (first | (refine ld_stage 36 rfl ?_; refine wpList_load_mid rfl 36 _ rfl (V1.heap.size) 0 rfl (GrdL (A)) _ r0 Tryz.underlying36 rfl (by rw [GrdL_length]; exact infoGround) ?_) | (go_at_call 113; have hc := l02Sweep_any K (-1) (.inl rfl) V.heap.size wr Q1.out HV.out.1 HV.out.2; rw [nxC_all, HA.out] at hc; refine hc.mono ?_; clear hc; rintro e V1 ⟨rfl, hV1⟩; have S1 := Lib.hid (Q1.out.below hV1 Q1.out.lt); have S2 := Lib.hid (Q2.out.below hV1 Q2.out.lt); have SB := Lib.hid (QB.out.trans (hV1.mono (by omega))); have zz := hV1.size; clear hV1) | (refine st_stage 36 rfl ?_; refine wpList_store_mid rfl 36 _ _ rfl _ 0 (Grd A) rfl rfl (by rw [Grd_size]; with_reducible exact new_thereG _ V1) (by rw [Grd_size]; exact infoGround) (Grd_one _) ?_; obtain ⟨X1, hX, zX1, gX1, bX1⟩ := stored_box A 36 V1; rw [hX]; have R0 := Lib.hid gX1; have R1 := Lib.hid (S1.out.below bX1 S1.out.lt); have R2 := Lib.hid (S2.out.below bX1 S2.out.lt); have RB := Lib.hid (SB.out.trans (bX1.mono (by omega))); have r0 := gX1.range; have t1 := R1.out.there; have t2 := R2.out.there; clear hX zX1 gX1 bX1) | (refine st_stage 36 rfl ?_; refine wpList_store_mid rfl 36 _ _ rfl _ 0 (Grd A) rfl rfl (by rw [Grd_size]; with_reducible exact t1) (by rw [Grd_size]; exact infoGround) (Grd_one _) ?_; obtain ⟨Y1, hY⟩ : ∃ Y1, X1.setCells V.heap.size 0 (Grd A).toList = Y1 := ⟨_, rfl⟩; rw [hY]; have U1 := Lib.hid (show GBox Y1 V.heap.size A by rw [← hY]; exact R1.out.store); have U2 := Lib.hid (show GBox Y1 w.heap.size zG by rw [← hY]; exact R2.out.fars (by omega)); have UB := Lib.hid (show Below w.heap.size w Y1 by rw [← hY]; exact below_setCells _ (by omega) _ _ _ RB.out); have ra := U1.out.range; have t3 := U2.out.there; clear hY t1))
          go_roundw
          case rel => exact ⟨k + 1, A, by omega, by go_num, VA, Lib.hid (by rw [show m - (k + 1) = j by omega]; exact HU.out), U1, U2, UB⟩
          case measure => simp [intOf]; omega
        · have HU := Lib.hid ((settR_end hs hle2).symm.trans hU)
          have hle3 : (FloatKind.f32.format.order (swF headO K).2.2 x == some Ordering.lt || FloatKind.f32.format.order (swF headO K).2.2 x == some Ordering.eq) = true := hle2
          clear hU hs hle2 vA oA t2
          generalize (swF headO K).1 = A at HA HU VA
          generalize (swF headO K).2.2 = c at HA hle3
          go_wp2_with (first | (refine ld_stage 36 rfl ?_; refine wpList_load_mid rfl 36 _ rfl (V1.heap.size) 0 rfl (GrdL (A)) _ r0 Tryz.underlying36 rfl (by rw [GrdL_length]; exact infoGround) ?_) | (refine ld_stage 36 rfl ?_; refine wpList_load_mid rfl 36 _ rfl (V.heap.size) 0 rfl (GrdL (A)) _ ra Tryz.underlying36 rfl (by rw [GrdL_length]; exact infoGround) ?_) | (go_at_call 113; have hc := l02Sweep_any K (-1) (.inl rfl) V.heap.size wr Q1.out HV.out.1 HV.out.2; rw [nxC_all, HA.out] at hc; refine hc.mono ?_; clear hc; rintro e V1 ⟨rfl, hV1⟩; have S1 := Lib.hid (Q1.out.below hV1 Q1.out.lt); have S2 := Lib.hid (Q2.out.below hV1 Q2.out.lt); have SB := Lib.hid (QB.out.trans (hV1.mono (by omega))); have zz := hV1.size; clear hV1) | (refine st_stage 36 rfl ?_; refine wpList_store_mid rfl 36 _ _ rfl _ 0 (Grd A) rfl rfl (by rw [Grd_size]; with_reducible exact new_thereG _ V1) (by rw [Grd_size]; exact infoGround) (Grd_one _) ?_; obtain ⟨X1, hX, zX1, gX1, bX1⟩ := stored_box A 36 V1; rw [hX]; have R0 := Lib.hid gX1; have R1 := Lib.hid (S1.out.below bX1 S1.out.lt); have R2 := Lib.hid (S2.out.below bX1 S2.out.lt); have RB := Lib.hid (SB.out.trans (bX1.mono (by omega))); have r0 := gX1.range; have t1 := R1.out.there; have t2 := R2.out.there; clear hX zX1 gX1 bX1) | (refine st_stage 36 rfl ?_; refine wpList_store_mid rfl 36 _ _ rfl _ 0 (Grd A) rfl rfl (by rw [Grd_size]; with_reducible exact t1) (by rw [Grd_size]; exact infoGround) (Grd_one _) ?_; obtain ⟨Y1, hY⟩ : ∃ Y1, X1.setCells V.heap.size 0 (Grd A).toList = Y1 := ⟨_, rfl⟩; rw [hY]; have U1 := Lib.hid (show GBox Y1 V.heap.size A by rw [← hY]; exact R1.out.store); have U2 := Lib.hid (show GBox Y1 w.heap.size zG by rw [← hY]; exact R2.out.fars (by omega)); have UB := Lib.hid (show Below w.heap.size w Y1 by rw [← hY]; exact below_setCells _ (by omega) _ _ _ RB.out); have ra := U1.out.range; have t3 := U2.out.there; clear hY t1) | (refine st_stage 36 rfl ?_; refine wpList_store_mid rfl 36 _ _ rfl _ 0 (Grd (A)) rfl rfl (by rw [Grd_size]; with_reducible exact t3) (by rw [Grd_size]; exact infoGround) (Grd_one _) ?_))
          refine bodyPost_ret (results_gii rfl _ _ _ A ((k : Int) + 1) 0 rfl rfl rfl U2.out.store.range Tryz.underlying36 rfl infoG195) rfl ⟨by rw [← HU.out]; rfl, below_setCells _ (by omega) _ _ _ UB.out⟩
    · obtain rfl : k = m := by omega
      have hle : ¬ (k : Int) + 1 ≤ (k : Int) := by omega
      have hU := hU.out
      rw [Nat.sub_self] at hU
      have HU := Lib.hid (show (zG, 0, 7) = R from hU)
      clear hU
      go_wp2_with (refine st_stage 36 rfl ?_; refine wpList_store_mid rfl 36 _ _ rfl _ 0 (Grd (zG)) rfl rfl (by rw [Grd_size]; with_reducible exact t2) (by rw [Grd_size]; exact infoGround) (Grd_one _) ?_)
      refine bodyPost_ret (results_gii rfl _ _ _ zG 0 7 rfl rfl rfl Q2.out.store.range Tryz.underlying36 rfl infoG195) rfl ⟨by rw [← HU.out]; rfl, below_setCells _ (by omega) _ _ _ QB.out⟩

end Go.Proofs.YtaghnminpfgdcaaGreatDoor
