/- Several steps of heads, one behind the other: the program's side. Condition: the table of math/bits is laid. -/
import Derived.Test.YtinepldaodadiaaDoorSof
import Derived.Test.YtinepldaodadiaaDoorStpI
import Derived.Test.YtinepldaodadiaaDoorStuI
import Derived.Test.YtinepldaodadiaaDoorRep
namespace Go.Proofs.YtinepldaodadiaaDoor
open Go Go.RowKit Go.Shelf
attribute [local go_sem] Oper.semAt_some run_store_float
set_option linter.unusedSimpArgs false
set_option linter.unusedVariables false

set_option maxRecDepth 100000 in
set_option maxHeartbeats 2000000 in
theorem behSteps_any (G : Gd) (part m g : Nat) (w : World) (hv : validB G = true) (hG : GdOk G) (hT : TabAt w) (hm : m ≤ 400) (hc : ∀ j, j < m → w.cell? ⟨g, j, none⟩ = some (.iface 41 (.float .f32 part))) :
    Calls Tryd.prog 13 #[.agg (Grd G), .slice (some ⟨g, 0, none⟩) m m] w fun e w' => e = .returned (GN (sofN part m G).1 (sofN part m G).2) ∧ Below w.heap.size w w' := by
  have hz := (zero_of_info zeroGround).1
  have HC := Lib.hid hc
  clear hc
  obtain ⟨R, hR⟩ : ∃ R, sofN part m G = R := ⟨_, rfl⟩
  rw [hR]
  have HR := Lib.hid hR
  clear hR
  go_enter Tryd.func13, Tryd.ntmps13
  go_upto_region 1 with (fail)
  obtain ⟨W, hW, zW, g1, g2, hB⟩ := gbox2 G zG 30 30 w
  rw [hW]
  clear hW
  have G1 := Lib.hid g1
  have G2 := Lib.hid g2
  have HB := Lib.hid hB
  have HT := Lib.hid hT
  have HVV := Lib.hid (And.intro hv hG)
  clear g1 g2 hB hG hT hv
  go_wp2
  go_loopw [6, 11] (fun c i wr => ∃ (k : Nat) (K : Gd), c = .int .i64 0 ∧ i = .int .i64 k ∧ k ≤ m ∧ Hid (sofN part (m - k) K = R ∧ validB K = true ∧ GdOk K) ∧ Hid (GBox wr w.heap.size K) ∧ Hid (GBox wr (w.heap.size + 1) zG) ∧ Hid (Below w.heap.size w wr)) (fun c i wr => m - (intOf i).toNat)
  case atStart => exact ⟨0, G, rfl, rfl, by omega, Lib.hid ⟨HR.out, HVV.out.1, HVV.out.2⟩, G1, G2, HB⟩
  case round =>
    clear G1 G2 HB
    obtain ⟨k, K, rfl, rfl, hk, hD, Q1, Q2, QB⟩ := hrel
    have zr := Q2.out.lt
    have QT := Lib.hid (HT.out.below QB.out (tab_lt HT.out))
    have r1 := Q1.out.range
    obtain ⟨hU, hv, hG⟩ := hD.out
    have HV := Lib.hid (And.intro hv hG)
    clear hD hv hG
    by_cases hlt : k < m
    · have hki : (k : Int) < m := by omega
      have c0 : wr.cell? ⟨g, k, none⟩ = some (.iface 41 (.float .f32 part)) := (QB.out.cell (World.block_lt_of_cell? w _ (HC.out k hlt))).trans (HC.out k hlt)
      obtain ⟨j, hj⟩ : ∃ j, m - k = j + 1 := ⟨m - k - 1, by omega⟩
      rw [hj] at hU
      by_cases hs : (stpR K part).2 = 0
      · have HU := Lib.hid ((sofN_on hs).symm.trans hU)
        have HVA := Lib.hid (stpR_good (p := part) HV.out.1 HV.out.2 hs)
        obtain ⟨A, hA⟩ : ∃ A, (stpR K part).1 = A := ⟨_, rfl⟩
        have HN := Lib.hid (show GN (stpR K part).1 (stpR K part).2 = .tuple #[.agg (Grd A), .int .i64 0] by rw [hA, hs]; rfl)
        rw [hA] at HU HVA
        clear hU hs hA
        go_wp2_with (first | (refine ld_stage 30 rfl ?_; refine wpList_load_mid rfl 30 _ rfl (w.heap.size) 0 rfl (GrdL (K)) _ r1 Tryd.underlying30 rfl (by rw [GrdL_length]; exact infoGround) ?_) | (go_at_call 23; have hc := behind_any K part wr HV.out.1 HV.out.2 QT.out; rw [HN.out] at hc; refine hc.mono ?_; clear hc; rintro e V2 ⟨rfl, hb⟩; have T1 := Lib.hid (Q1.out.below hb Q1.out.lt); have T2 := Lib.hid (Q2.out.below hb Q2.out.lt); have TB := Lib.hid (QB.out.trans (hb.mono QB.out.size)); have tt := T1.out.there; have TF := Lib.hid (T2.out.fars (b' := w.heap.size) (vs := (Grd A).toList) (k := 0) (by omega)); have t2 := TF.out.there; clear hb) | (refine st_stage 30 rfl ?_; refine wpList_store_mid rfl 30 _ _ rfl _ 0 (Grd (A)) rfl rfl (by rw [Grd_size]; with_reducible exact tt) (by rw [Grd_size]; exact infoGround) (Grd_one _) ?_))
        go_roundw
        case rel => exact ⟨k + 1, A, rfl, by go_num, by omega, Lib.hid ⟨by rw [show m - (k + 1) = j by omega]; exact HU.out, HVA.out⟩, Lib.hid T1.out.store, Lib.hid (T2.out.fars (by omega)), Lib.hid (below_setCells _ (Nat.le_refl _) _ _ _ TB.out)⟩
        case measure => simp [intOf]; omega
      · have h4 := stpR_code4 hs
        obtain ⟨A, hA⟩ : ∃ A, zG = A := ⟨_, rfl⟩
        have HN := Lib.hid (show GN (stpR K part).1 (stpR K part).2 = .tuple #[.agg (Grd A), .int .i64 4] by rw [h4, ← hA]; rfl)
        have HU := Lib.hid (show (A, 4) = R by rw [← hU, sofN_no hs, hA])
        clear hU hs h4
        subst hA
        go_wp2_with (first | (refine ld_stage 30 rfl ?_; refine wpList_load_mid rfl 30 _ rfl (w.heap.size) 0 rfl (GrdL (K)) _ r1 Tryd.underlying30 rfl (by rw [GrdL_length]; exact infoGround) ?_) | (go_at_call 23; have hc := behind_any K part wr HV.out.1 HV.out.2 QT.out; rw [HN.out] at hc; refine hc.mono ?_; clear hc; rintro e V2 ⟨rfl, hb⟩; have T1 := Lib.hid (Q1.out.below hb Q1.out.lt); have T2 := Lib.hid (Q2.out.below hb Q2.out.lt); have TB := Lib.hid (QB.out.trans (hb.mono QB.out.size)); have tt := T1.out.there; have TF := Lib.hid (T2.out.fars (b' := w.heap.size) (vs := (Grd zG).toList) (k := 0) (by omega)); have t2 := TF.out.there; clear hb) | (refine st_stage 30 rfl ?_; refine wpList_store_mid rfl 30 _ _ rfl _ 0 (Grd (zG)) rfl rfl (by rw [Grd_size]; with_reducible exact tt) (by rw [Grd_size]; exact infoGround) (Grd_one _) ?_) | (refine st_stage 30 rfl ?_; refine wpList_store_mid rfl 30 _ _ rfl _ 0 (Grd (zG)) rfl rfl (by rw [Grd_size]; with_reducible exact t2) (by rw [Grd_size]; exact infoGround) (Grd_one _) ?_))
        refine bodyPost_ret (ret_GN rfl rfl rfl TF.out.store.range) rfl ⟨by rw [← HU.out], below_setCells _ (by omega) _ _ _ (below_setCells _ (Nat.le_refl _) _ _ _ TB.out)⟩
    · obtain rfl : k = m := by omega
      have HU := Lib.hid (show (K, 0) = R by rw [← hU, Nat.sub_self]; rfl)
      have t2 := Q2.out.there
      clear hU
      go_wp2_with (first | (refine ld_stage 30 rfl ?_; refine wpList_load_mid rfl 30 _ rfl (w.heap.size) 0 rfl (GrdL (K)) _ r1 Tryd.underlying30 rfl (by rw [GrdL_length]; exact infoGround) ?_) | (refine st_stage 30 rfl ?_; refine wpList_store_mid rfl 30 _ _ rfl _ 0 (Grd (K)) rfl rfl (by rw [Grd_size]; with_reducible exact t2) (by rw [Grd_size]; exact infoGround) (Grd_one _) ?_))
      refine bodyPost_ret (ret_GN rfl rfl rfl Q2.out.store.range) rfl ⟨by rw [← HU.out], below_setCells _ (by omega) _ _ _ QB.out⟩

set_option maxRecDepth 100000 in
set_option maxHeartbeats 2000000 in
theorem implSof_any (G : Gd) (part : Nat) (y : Int) (w : World) (hG : GdOk G) (hT : TabAt w) (hy : -9223372036854775808 ≤ y ∧ y ≤ 9223372036854775807) :
    Calls Tryd.prog 6 #[.agg (Grd G), .float .f32 part, .int .i64 y] w fun e w' => e = .returned (GN (sofV G part y).1 (sofV G part y).2) ∧ Below w.heap.size w w' := by
  have hz := (zero_of_info zeroGround).1
  go_enter Tryd.func6, Tryd.ntmps6
  go_upto_region 1 with (fail)
  obtain ⟨W, hW, zW, g1, g2, hB⟩ := gbox2 G zG 30 30 w
  rw [hW]
  clear hW
  have G1 := Lib.hid g1
  have G2 := Lib.hid g2
  have HB := Lib.hid hB
  have HG := Lib.hid hG
  have HT := Lib.hid (hT.below hB (tab_lt hT))
  have htl := tab_lt hT
  clear g1 g2 hB hG hT
  rcases askT_or G part with ha | ha
  · obtain ⟨hv, hpp⟩ := askT_yes ha
    cases hyy : hoursB y
    · have Ha := Lib.hid (show (if askT G part = 0 then (if hoursB y = true then (0 : Int) else 2) else 1) = 2 by simp [ha, hyy])
      have HE := Lib.hid (show sofV G part y = (zG, 2) by simp [sofV, ha, hyy])
      clear ha hv hpp hyy
      go_wp2_with (first | (go_at_call 12; have hc := checkSteps_any G part w.heap.size y W HG.out HT.out G1.out; rw [Ha.out] at hc; refine hc.mono ?_; clear hc; rintro e V ⟨rfl, hb⟩; have P1 := Lib.hid (G1.out.below hb (by omega)); have P2 := Lib.hid (G2.out.below hb (by omega)); have t1 := P2.out.there; have TV := Lib.hid (HT.out.below hb (tab_lt HT.out)); have BV := Lib.hid (HB.out.trans (hb.mono (by omega))); clear hb) | (refine st_stage 30 rfl ?_; refine wpList_store_mid rfl 30 _ _ rfl _ 0 (Grd (zG)) rfl rfl (by rw [Grd_size]; with_reducible exact t1) (by rw [Grd_size]; exact infoGround) (Grd_one _) ?_))
      refine bodyPost_ret (ret_GN rfl rfl rfl P2.out.store.range) rfl ⟨by rw [HE.out], below_setCells _ (by omega) _ _ _ BV.out⟩
    · obtain ⟨m, rfl⟩ : ∃ m : Nat, y = (m : Int) := ⟨y.toNat, by simp [hoursB] at hyy; omega⟩
      have hm : m ≤ 400 := by simp [hoursB] at hyy; omega
      have Ha := Lib.hid (show (if askT G part = 0 then (if hoursB (m : Int) = true then (0 : Int) else 2) else 1) = 0 by simp [ha, hyy])
      obtain ⟨A, n, hA⟩ : ∃ A n, sofN part m G = (A, n) := ⟨_, _, rfl⟩
      have HA := Lib.hid hA
      have HN := Lib.hid (show GN (sofN part m G).1 (sofN part m G).2 = .tuple #[.agg (Grd A), .int .i64 n] by rw [hA]; rfl)
      have HE := Lib.hid (show sofV G part (m : Int) = (A, n) by rw [← hA]; simp [sofV, ha, hyy])
      have HV := Lib.hid hv
      clear ha hv hpp hyy hA
      go_upto_region 5 with (first | (go_at_call 12; have hc := checkSteps_any G part w.heap.size (m : Int) W HG.out HT.out G1.out; rw [Ha.out] at hc; refine hc.mono ?_; clear hc; rintro e V ⟨rfl, hb⟩; have P1 := Lib.hid (G1.out.below hb (by omega)); have P2 := Lib.hid (G2.out.below hb (by omega)); have t1 := P2.out.there; have TV := Lib.hid (HT.out.below hb (tab_lt HT.out)); have BV := Lib.hid (HB.out.trans (hb.mono (by omega))); clear hb))
      have hP2l := P2.out.lt
      refine wp_region_plan (ops' := regOf Tryd.f6 5) (.take 0 (.take 1 (.take 2 (.take 4 (.run 3 (.run 5 (.run 6 (.take 7 (.take 8 (.run 9 (.take 10 .fin))))))))))) (Below (w.heap.size + 1) V) (by kernel_rfl) (by kernel_rfl) (by kernel_rfl) (by kernel_rfl) (by kernel_rfl) ((Below.refl _ _).drew) ?_
      refine plan_load (some 19) 30 (.tmp 3) w.heap.size 0 (GrdL G) _ (by kernel_rfl) (by kernel_rfl) (by kernel_rfl) (by kernel_rfl) (by kernel_rfl) (fun w' hw' => (P1.out.below hw' (by omega)).range) Tryd.underlying30 rfl (by rw [GrdL_length]; exact infoGround) ?_
      refine plan_pure (some 20) (.float .f32 part) (by kernel_rfl) (by kernel_rfl) (by kernel_rfl) (fun _ => by kernel_rfl) ?_
      refine plan_pure (some 21) (.iface 41 (.float .f32 part)) (by kernel_rfl) (by kernel_rfl) (by kernel_rfl) (fun _ => by kernel_rfl) ?_
      refine plan_pure (some 23) (.int .i64 (m : Int)) (by kernel_rfl) (by kernel_rfl) (by kernel_rfl) (fun _ => by kernel_rfl) ?_
      have b1 : Below (w.heap.size + 1) V (V.drew.alloc (.cells #[.iface 41 (.float .f32 part)] 47)) := ((Below.refl _ _).drew).alloc (by show w.heap.size + 1 ≤ V.heap.size; omega) _
      refine plan_do (some 22) (.slice (some ⟨V.heap.size, 0, none⟩) 1 1) (V.drew.alloc (.cells #[.iface 41 (.float .f32 part)] 47)) (by kernel_rfl) (by kernel_rfl) (by kernel_rfl) (.inl (by kernel_rfl)) b1 ?_
      refine plan_call (some 24) 14 #[.slice (some ⟨V.heap.size, 0, none⟩) 1 1, .int .i64 (m : Int)] (by kernel_rfl) (by kernel_rfl) (by kernel_rfl) (by kernel_rfl) (Calls.mono (repeat_any V.heap.size (.iface 41 (.float .f32 part)) rfl m hm _ (cell_of_row _ V.heap.size 0 _ _ _ (heap_alloc_last V.drew _))) ?_)
      rintro e V2 ⟨g, rfl, hcs, hb2⟩
      have b2 : Below (w.heap.size + 1) V V2 := b1.trans (hb2.mono (by simp; omega))
      refine ⟨_, rfl, b2, ?_⟩
      refine plan_call (some 25) 13 #[.agg (Grd G), .slice (some ⟨g, 0, none⟩) m m] (by kernel_rfl) (by kernel_rfl) (by kernel_rfl) (by kernel_rfl) (Calls.mono (behSteps_any G part m g V2 HV.out HG.out (TV.out.below b2 (by omega)) hm hcs) ?_)
      rintro e V3 ⟨rfl, hb3⟩
      have b3 : Below (w.heap.size + 1) V V3 := b2.trans (hb3.mono (by have := b2.size; omega))
      have zz : w.heap.size + 1 < V2.heap.size := by have := b1.size; have h2 := hb2.size; simp at h2; omega
      have X2 := (P2.out.below ((Below.refl _ _).drew.alloc (Nat.le_refl V.heap.size) (.cells #[.iface 41 (.float .f32 part)] 47)) hP2l)
      have X3 := (X2.below hb2 X2.lt)
      have S3 := Lib.hid (X3.below hb3 X3.lt)
      refine ⟨_, rfl, b3, ?_⟩
      rw [HN.out]
      refine plan_pure (some 26) (.agg (Grd A)) (by kernel_rfl) (by kernel_rfl) (by kernel_rfl) (fun _ => by kernel_rfl) ?_
      refine plan_pure (some 27) (.int .i64 n) (by kernel_rfl) (by kernel_rfl) (by kernel_rfl) (fun _ => by kernel_rfl) ?_
      refine plan_do none undef (V3.setCells (w.heap.size + 1) 0 (Grd A).toList) (by kernel_rfl) (by kernel_rfl) (by kernel_rfl) (.inr ⟨store_op (x := .tmp 6) (y := .tmp 26) (by kernel_rfl) (by kernel_rfl) (by kernel_rfl) (by rw [Grd_size]; exact S3.out.there) (by rw [Grd_size]; exact infoGround) (Grd_one _), rfl⟩) (below_setCells _ (Nat.le_refl _) _ _ _ b3) ?_
      refine plan_pure (some 7) (.int .i64 n) (by kernel_rfl) (by kernel_rfl) (by kernel_rfl) (fun _ => by kernel_rfl) ?_
      refine plan_end (NoPanic.normal ?_)
      simp only [Act.put, List.setIfInBounds_toArray, List.set_cons_zero, List.set_cons_succ]
      have B3 := Lib.hid (BV.out.trans (b3.mono (by omega)))
      clear b1 b2 b3 X2 X3 hb2 hb3 hcs
      go_wp2
      refine bodyPost_ret (ret_GN rfl rfl rfl S3.out.store.range) rfl ⟨by rw [HE.out], below_setCells _ (by omega) _ _ _ B3.out⟩
  · have Ha := Lib.hid (show (if askT G part = 0 then (if hoursB y = true then (0 : Int) else 2) else 1) = 1 by simp [ha])
    have HE := Lib.hid (show sofV G part y = (zG, 1) by simp [sofV, ha])
    clear ha
    go_wp2_with (first | (go_at_call 12; have hc := checkSteps_any G part w.heap.size y W HG.out HT.out G1.out; rw [Ha.out] at hc; refine hc.mono ?_; clear hc; rintro e V ⟨rfl, hb⟩; have P1 := Lib.hid (G1.out.below hb (by omega)); have P2 := Lib.hid (G2.out.below hb (by omega)); have t1 := P2.out.there; have TV := Lib.hid (HT.out.below hb (tab_lt HT.out)); have BV := Lib.hid (HB.out.trans (hb.mono (by omega))); clear hb) | (refine st_stage 30 rfl ?_; refine wpList_store_mid rfl 30 _ _ rfl _ 0 (Grd (zG)) rfl rfl (by rw [Grd_size]; with_reducible exact t1) (by rw [Grd_size]; exact infoGround) (Grd_one _) ?_))
    refine bodyPost_ret (ret_GN rfl rfl rfl P2.out.store.range) rfl ⟨by rw [HE.out], below_setCells _ (by omega) _ _ _ BV.out⟩
end Go.Proofs.YtinepldaodadiaaDoor
