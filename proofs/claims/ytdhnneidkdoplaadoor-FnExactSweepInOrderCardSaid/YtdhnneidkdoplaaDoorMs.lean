/- The model's end of a sweep, and its StepAtOnce. No condition. -/
import Derived.Test.YtdhnneidkdoplaaDoorMod
namespace Go.Proofs.YtdhnneidkdoplaaDoor
open Go.RowKit Go.Shelf
attribute [local go_sem] Oper.semAt_some run_store_float
set_option linter.unusedSimpArgs false
set_option linter.unusedVariables false

set_option maxRecDepth 100000 in
set_option maxHeartbeats 2000000 in
theorem l02Swept_any (G O : Gd) (hG : GdOk G) (hK : GdOk O) (hv : validB G = true) (he : ∀ i, isB O i = isB G i) (p q : Nat) (w : World) (hp : GBox w p G) (hq : GBox w q O) :
    Calls Tryd.prog 74 #[.pointer (some ⟨p, 0, none⟩), .pointer (some ⟨q, 0, none⟩)] w fun e w' => e = .returned (endV G O) ∧ Below w.heap.size w w' := by
  have hz := (zero_of_info zeroGround).1
  have hpl := hp.lt
  have hql := hq.lt
  go_enter Tryd.func74, Tryd.ntmps74
  go_upto_region 1 with (fail)
  obtain ⟨W, hW, zW, g1, hB⟩ := gbox1 zG 32 w
  rw [hW]
  clear hW
  have gP := Lib.hid (hp.below hB hpl)
  have gQ := Lib.hid (hq.below hB hql)
  have gR := Lib.hid g1
  have HB := Lib.hid hB
  have HG := Lib.hid hG
  have HK := Lib.hid hK
  have HV := Lib.hid hv
  have HE := Lib.hid he
  clear g1 hB hG hK hv he hp hq
  cases ho : validB O
  · have Ho := Lib.hid ho
    have HR := Lib.hid (show endV G O = .tuple #[.agg (Grd zG), .float .f32 0, .int .i64 4] by simp [endV, ho])
    clear ho
    go_wp2_with (first | (go_at_call 49; have hc := (l01Ok_any O q W gQ.out.at' HK.out); rw [Ho.out] at hc; refine hc.mono ?_; clear hc; rintro e w' ⟨rfl, n, rfl⟩; have t1 := (gR.out.below (Quiet.below ⟨n, rfl⟩ (w.heap.size + 1) : Below (w.heap.size + 1) W (World.drewN W n)) (by omega)).there; have SR := Lib.hid (gR.out.below (Quiet.below ⟨n, rfl⟩ (w.heap.size + 1) : Below (w.heap.size + 1) W (World.drewN W n)) (by omega)); have BW := Lib.hid (HB.out.trans (Quiet.below ⟨n, rfl⟩ _) : Below w.heap.size w (World.drewN W n))) | (refine st_stage 32 rfl ?_; refine wpList_store_mid rfl 32 _ _ rfl _ 0 (Grd (zG)) rfl rfl (by rw [Grd_size]; with_reducible exact t1) (by rw [Grd_size]; exact infoGround) (Grd_one _) ?_))
    refine bodyPost_ret (results_gfn rfl _ _ _ zG 0 4 rfl rfl rfl SR.out.store.range Tryd.underlying32 rfl infoG195) rfl ⟨by rw [HR.out], below_setCells _ (by omega) _ _ _ BW.out⟩
  · have Ho := Lib.hid ho
    have HO := Lib.hid (fun k (hk : k < 64) (hb : isB G k = true) => valid_heads ho hk ((HE.out k).trans hb))
    have HR := Lib.hid (show endV G O = .tuple #[.agg (Grd O), .float .f32 (mxL G O (cellTo G 64)), .int .i64 0] by simp [endV, ho])
    clear ho
    go_upto_region 3 with (go_at_call 49; have hc := (l01Ok_any O q W gQ.out.at' HK.out); rw [Ho.out] at hc; refine hc.mono ?_; clear hc; rintro e w' ⟨rfl, n, rfl⟩)
    obtain ⟨V, hV⟩ : ∃ V, World.drewN W n = V := ⟨_, rfl⟩
    have qV : Quiet W V := by rw [← hV]; exact ⟨n, rfl⟩
    rw [hV]
    have gP := Lib.hid (gP.out.below (qV.below (w.heap.size + 1)) (by omega))
    have gQ := Lib.hid (gQ.out.below (qV.below (w.heap.size + 1)) (by omega))
    have gR := Lib.hid (gR.out.below (qV.below (w.heap.size + 1)) (by omega))
    have HB := Lib.hid (HB.out.trans (qV.below _))
    have rO := gQ.out.range
    clear hV qV
    refine wp_region_plan (ops' := regOf Tryd.f74 3) (.take 0 (.take 1 (.take 2 (.take 3 (.take 4 (.run 5 (.run 6 (.take 7 (.take 8 .fin))))))))) (Below w.heap.size V) (by kernel_rfl) (by kernel_rfl) (by kernel_rfl) (by kernel_rfl) (by kernel_rfl) (Below.refl _ _).drew ?_
    refine plan_pure (some 11) (.pointer (some ⟨q, 0, none⟩)) (by kernel_rfl) (by kernel_rfl) (by kernel_rfl) (fun _ => by kernel_rfl) ?_
    refine plan_pure (some 12) (.pointer (some ⟨q, 0, none⟩)) (by kernel_rfl) (by kernel_rfl) (by kernel_rfl) (fun _ => by kernel_rfl) ?_
    refine plan_load (some 13) 32 (.tmp 12) q 0 (GrdL O) _ (by kernel_rfl) (by kernel_rfl) (by kernel_rfl) (by kernel_rfl) (by kernel_rfl) (fun w' hw' => range_kept (n := w.heap.size) rO hql _ hw') Tryd.underlying32 rfl (by rw [GrdL_length]; exact infoGround) ?_
    refine plan_pure (some 14) (.pointer (some ⟨p, 0, none⟩)) (by kernel_rfl) (by kernel_rfl) (by kernel_rfl) (fun _ => by kernel_rfl) ?_
    refine plan_pure (some 15) (.pointer (some ⟨q, 0, none⟩)) (by kernel_rfl) (by kernel_rfl) (by kernel_rfl) (fun _ => by kernel_rfl) ?_
    have qd : Quiet V V.drew := (Quiet.refl _).drewN 1
    refine plan_call (some 16) 98 #[.pointer (some ⟨p, 0, none⟩), .pointer (some ⟨q, 0, none⟩)] (by kernel_rfl) (by kernel_rfl) (by kernel_rfl) (by kernel_rfl) ((l02Change_any G O HG.out HV.out HO.out p q _ (Quiet.grd qd gP.out.at') (Quiet.grd qd gQ.out.at')).mono ?_)
    rintro e w1 ⟨rfl, hq1⟩
    have hw1 := qd.trans hq1
    have SR := Lib.hid (gR.out.below (hw1.below (w.heap.size + 1)) (by omega))
    refine ⟨_, rfl, hw1.below _, plan_do none undef (w1.setCells w.heap.size 0 (Grd O).toList) (by kernel_rfl) (by kernel_rfl) (by kernel_rfl) (.inr ⟨store_op (x := .tmp 4) (y := .tmp 13) (cs := Grd O) (by kernel_rfl) (by kernel_rfl) (by kernel_rfl) (by rw [Grd_size]; exact SR.out.there) (by rw [Grd_size]; exact infoGround) (Grd_one _), rfl⟩) (below_setCells _ (Nat.le_refl _) _ _ _ (hw1.below _)) (plan_pure (some 5) (.float .f32 (mxL G O (cellTo G 64))) (by kernel_rfl) (by kernel_rfl) (by kernel_rfl) (fun _ => by kernel_rfl) (plan_pure (some 6) (.int .i64 0) (by kernel_rfl) (by kernel_rfl) (by kernel_rfl) (fun _ => by kernel_rfl) (plan_end (NoPanic.normal ?_))))⟩
    simp only [Act.put, List.setIfInBounds_toArray, List.set_cons_zero, List.set_cons_succ]
    go_wp2
    refine bodyPost_ret (results_gfn rfl _ _ _ O (mxL G O (cellTo G 64)) 0 rfl rfl rfl SR.out.store.range Tryd.underlying32 rfl infoG195) rfl ⟨by rw [HR.out], below_setCells _ (by omega) _ _ _ (HB.out.trans (hw1.below _))⟩

set_option maxRecDepth 100000 in
set_option maxHeartbeats 2000000 in
theorem specStep_any (G : Gd) (w : World) (hG : GdOk G) :
    Calls Tryd.prog 35 #[.agg (Grd G)] w fun e w' => e = .returned (stepV G) ∧ Below w.heap.size w w' := by
  have hz := (zero_of_info zeroGround).1
  go_enter Tryd.func35, Tryd.ntmps35
  go_upto_region 1 with (fail)
  obtain ⟨W, hW, zW, g1, g2, hB⟩ := gbox2 G zG 32 32 w
  rw [hW]
  clear hW
  have G1 := Lib.hid g1
  have G2 := Lib.hid g2
  have HB := Lib.hid hB
  have HG := Lib.hid hG
  clear g1 g2 hB hG
  cases hv : validB G
  · have Hv := Lib.hid hv
    have HR := Lib.hid (show stepV G = .tuple #[.agg (Grd zG), .float .f32 0, .int .i64 1] by simp [stepV, hv])
    clear hv
    go_wp2_with (first | (go_at_call 49; have hc := (l01Ok_any G w.heap.size W G1.out.at' HG.out); rw [Hv.out] at hc; refine hc.mono ?_; clear hc; rintro e w' ⟨rfl, n, rfl⟩; have SR := Lib.hid (G2.out.below (Quiet.below ⟨n, rfl⟩ (w.heap.size + 2) : Below (w.heap.size + 2) W (World.drewN W n)) (by omega)); have t1 := SR.out.there; have BW := Lib.hid (HB.out.trans (Quiet.below ⟨n, rfl⟩ _) : Below w.heap.size w (World.drewN W n))) | (refine st_stage 32 rfl ?_; refine wpList_store_mid rfl 32 _ _ rfl _ 0 (Grd (zG)) rfl rfl (by rw [Grd_size]; with_reducible exact t1) (by rw [Grd_size]; exact infoGround) (Grd_one _) ?_))
    refine bodyPost_ret (results_gfn rfl _ _ _ zG 0 1 rfl rfl rfl SR.out.store.range Tryd.underlying32 rfl infoG195) rfl ⟨by rw [HR.out], below_setCells _ (by omega) _ _ _ BW.out⟩
  · have Hv := Lib.hid hv
    have HR := Lib.hid (show stepV G = sweptV (fun _ k => headO G k) G by simp [stepV, hv])
    clear hv
    go_upto_region 3 with (go_at_call 49; have hc := (l01Ok_any G w.heap.size W G1.out.at' HG.out); rw [Hv.out] at hc; refine hc.mono ?_; clear hc; rintro e w' ⟨rfl, n, rfl⟩)
    obtain ⟨V, hV⟩ : ∃ V, World.drewN W n = V := ⟨_, rfl⟩
    have qV : Quiet W V := by rw [← hV]; exact ⟨n, rfl⟩
    rw [hV]
    have G1 := Lib.hid (G1.out.below (qV.below (w.heap.size + 2)) (by omega))
    have G2 := Lib.hid (G2.out.below (qV.below (w.heap.size + 2)) (by omega))
    have HB := Lib.hid (HB.out.trans (qV.below _))
    have zV : w.heap.size + 1 < V.heap.size := by have := qV.size; omega
    have r1 := G1.out.range
    have hnt := new_thereG 32 V
    clear hV qV
    go_upto_region 4 with (first | (refine ld_stage 32 rfl ?_; refine wpList_load_mid rfl 32 _ rfl (w.heap.size) 0 rfl (GrdL (G)) _ r1 Tryd.underlying32 rfl (by rw [GrdL_length]; exact infoGround) ?_) | (refine st_stage 32 rfl ?_; refine wpList_store_mid rfl 32 _ _ rfl _ 0 (Grd (G)) rfl rfl (by rw [Grd_size]; with_reducible exact hnt) (by rw [Grd_size]; exact infoGround) (Grd_one _) ?_))
    obtain ⟨U, hU, zU, gU, bU⟩ := stored_box G 32 V
    rw [hU]
    have P1 := Lib.hid (G1.out.below bU (by omega))
    have P2 := Lib.hid (G2.out.below bU (by omega))
    have P0 := Lib.hid gU
    have PB := Lib.hid (HB.out.trans (bU.mono (by omega)))
    have PM := Lib.hid (Mst.start (fun _ k => headO G k) G)
    clear r1 hnt hU zU gU bU
    go_wp2
    go_loopw [6] (fun i wr => ∃ (k : Nat) (O : Gd), k ≤ 64 ∧ i = .int .i64 k ∧ Hid (Mst (fun _ k => headO G k) G k O) ∧ Hid (GBox wr V.heap.size O) ∧ Hid (GBox wr w.heap.size G) ∧ Hid (GBox wr (w.heap.size + 1) zG) ∧ Hid (Below w.heap.size w wr)) (fun i _ => 64 - (intOf i).toNat)
    case atStart => exact ⟨0, G, by omega, rfl, PM, P0, P1, P2, PB⟩
    case round =>
      clear P0 P1 P2 PB PM
      obtain ⟨k, O, hk, rfl, M, Q0, Q1, Q2, QB⟩ := hrel
      have zr := Q0.out.lt
      by_cases hlt : k < 64
      · have hk2 : (k : Int) < 64 := by omega
        cases hi : isB G k
        · have Hi := Lib.hid hi
          clear hi
          go_wp2_with (go_at_call 51; refine (l01Is_is G k hlt false Hi.out _ _ Q1.out.at' HG.out).mono ?_; rintro e w' ⟨rfl, rfl⟩)
          go_roundw
          case rel => exact ⟨k + 1, O, by omega, by go_num, Lib.hid (M.out.skip Hi.out), Q0, Q1, Q2, QB⟩
          case measure => simp [intOf]; omega
        · have Hi := Lib.hid hi
          clear hi
          go_wp2_with (first | (go_at_call 51; refine (l01Is_is G k hlt true Hi.out _ _ Q1.out.at' HG.out).mono ?_; rintro e w' ⟨rfl, rfl⟩) | (go_at_call 61; refine (l02Head_any G k hlt Hv.out w.heap.size _ Q1.out.at' HG.out).mono ?_; rintro e w1 ⟨r, rfl, hr, hq⟩; have HRr := Lib.hid hr; have S0 := Lib.hid (Q0.out.below (hq.below (V.heap.size + 1)) (by omega)); have S1 := Lib.hid (Q1.out.below (hq.below (V.heap.size + 1)) (by omega)); have S2 := Lib.hid (Q2.out.below (hq.below (V.heap.size + 1)) (by omega)); have SB := Lib.hid (QB.out.trans (hq.below _)); have b0 := S0.out.at_some (130 + k) (by omega); obtain ⟨u, hu⟩ := Option.isSome_iff_exists.1 b0; have f0 := S0.out.free (130 + k) (by omega); clear hr hq b0))
          go_roundw
          case rel => exact ⟨k + 1, putHd O k r, by omega, by go_num, Lib.hid (M.out.put Hi.out HRr.out), Lib.hid (S0.out.putH hlt), Lib.hid (S1.out.far (by omega)), Lib.hid (S2.out.far (by omega)), Lib.hid (SB.out.setCell (p := ⟨V.heap.size, 130 + k, none⟩) (by show w.heap.size ≤ V.heap.size; omega) _)⟩
          case measure => simp [intOf]; omega
      · obtain rfl : k = 64 := by omega
        have hE := M.out.endV Hv.out HG.out
        obtain ⟨A, m, n, hA⟩ := sweptV_is (fun _ k => headO G k) G
        have HR := Lib.hid (HR.out.trans hA)
        rw [hA] at hE
        have HE := Lib.hid hE
        clear hA hE
        go_wp2_with (first | (go_at_call 74; have hc := l02Swept_any G O HG.out (M.out.ok HG.out) Hv.out (fun i => M.out.isB i) w.heap.size V.heap.size wr Q1.out Q0.out; rw [HE.out] at hc; refine hc.mono ?_; clear hc; rintro e w1 ⟨rfl, hq⟩; have SR := Lib.hid (Q2.out.below hq (by omega)); have t1 := SR.out.there; have SB := Lib.hid (QB.out.trans (hq.mono (by omega))); clear hq) | (refine st_stage 32 rfl ?_; refine wpList_store_mid rfl 32 _ _ rfl _ 0 (Grd (A)) rfl rfl (by rw [Grd_size]; with_reducible exact t1) (by rw [Grd_size]; exact infoGround) (Grd_one _) ?_))
        refine bodyPost_ret (results_gfn rfl _ _ _ A m n rfl rfl rfl SR.out.store.range Tryd.underlying32 rfl infoG195) rfl ⟨by rw [HR.out], below_setCells _ (by omega) _ _ _ SB.out⟩

theorem stepV_is (G : Gd) : ∃ (A : Gd) (m : Nat) (n : Int), stepV G = .tuple #[.agg (Grd A), .float .f32 m, .int .i64 n] := by
  unfold stepV
  split
  · exact sweptV_is _ _
  · exact ⟨_, _, _, rfl⟩
end Go.Proofs.YtdhnneidkdoplaaDoor
