/- The model's end of a sweep, and its StepAtOnce. No condition. -/
import Derived.Test.YtaghnminpfgdcaaGreatDoorMod
namespace Go.Proofs.YtaghnminpfgdcaaGreatDoor
open Go.RowKit Go.Shelf
attribute [local go_sem] Oper.semAt_some run_store_float
set_option linter.unusedSimpArgs false
set_option linter.unusedVariables false

set_option maxRecDepth 100000 in
set_option maxHeartbeats 2000000 in
theorem l02Swept_any (G O : Gd) (hG : GdOk G) (hK : GdOk O) (hv : validB G = true) (he : ∀ i, isB O i = isB G i) (p q : Nat) (w : World) (hp : GBox w p G) (hq : GBox w q O) :
    Calls Tryz.prog 134 #[.pointer (some ⟨p, 0, none⟩), .pointer (some ⟨q, 0, none⟩)] w fun e w' => e = .returned (endV G O) ∧ Below w.heap.size w w' := by
  have hz := (zero_of_info zeroGround).1
  have hpl := hp.lt
  have hql := hq.lt
  go_enter Tryz.func134, Tryz.ntmps134
  go_upto_region 1 with (fail)
  obtain ⟨W, hW, zW, g1, hB⟩ := gbox1 zG 36 w
  rw [hW]
  clear hW
  have gP := Lib.hid (hp.below hB hpl)
  have gQ := Lib.hid (hq.below hB hql)
  have gR := Lib.hid g1
  have HB := Lib.hid hB
  have HG := Lib.hid hG
  have HK := Lib.hid hK
  have HV := Lib.hid hv
  have HE := Lib.hid he
  clear g1 hB hG hK hv he hp hq
  cases ho : validB O
  · have Ho := Lib.hid ho
    have HR := Lib.hid (show endV G O = .tuple #[.agg (Grd zG), .float .f32 0, .int .i64 4] by simp [endV, ho])
    clear ho
    go_wp2_with (first | (go_at_call 82; have hc := (l01Ok_any O q W gQ.out.at' HK.out); rw [Ho.out] at hc; refine hc.mono ?_; clear hc; rintro e w' ⟨rfl, n, rfl⟩; have t1 := (gR.out.below (Quiet.below ⟨n, rfl⟩ (w.heap.size + 1) : Below (w.heap.size + 1) W (World.drewN W n)) (by omega)).there; have SR := Lib.hid (gR.out.below (Quiet.below ⟨n, rfl⟩ (w.heap.size + 1) : Below (w.heap.size + 1) W (World.drewN W n)) (by omega)); have BW := Lib.hid (HB.out.trans (Quiet.below ⟨n, rfl⟩ _) : Below w.heap.size w (World.drewN W n))) | (refine st_stage 36 rfl ?_; refine wpList_store_mid rfl 36 _ _ rfl _ 0 (Grd (zG)) rfl rfl (by rw [Grd_size]; with_reducible exact t1) (by rw [Grd_size]; exact infoGround) (Grd_one _) ?_))
    refine bodyPost_ret (results_gfn rfl _ _ _ zG 0 4 rfl rfl rfl SR.out.store.range Tryz.underlying36 rfl infoG195) rfl ⟨by rw [HR.out], below_setCells _ (by omega) _ _ _ BW.out⟩
  · have Ho := Lib.hid ho
    have HO := Lib.hid (fun k (hk : k < 64) (hb : isB G k = true) => valid_heads ho hk ((HE.out k).trans hb))
    have HR := Lib.hid (show endV G O = .tuple #[.agg (Grd O), .float .f32 (mxL G O (cellTo G 64)), .int .i64 0] by simp [endV, ho])
    clear ho
    go_upto_region 3 with (go_at_call 82; have hc := (l01Ok_any O q W gQ.out.at' HK.out); rw [Ho.out] at hc; refine hc.mono ?_; clear hc; rintro e w' ⟨rfl, n, rfl⟩)
    obtain ⟨V, hV⟩ : ∃ V, World.drewN W n = V := ⟨_, rfl⟩
    have qV : Quiet W V := by rw [← hV]; exact ⟨n, rfl⟩
    rw [hV]
    have gP := Lib.hid (gP.out.below (qV.below (w.heap.size + 1)) (by omega))
    have gQ := Lib.hid (gQ.out.below (qV.below (w.heap.size + 1)) (by omega))
    have gR := Lib.hid (gR.out.below (qV.below (w.heap.size + 1)) (by omega))
    have HB := Lib.hid (HB.out.trans (qV.below _))
    have rO := gQ.out.range
    clear hV qV
    refine wp_region_plan (ops' := regOf Tryz.f134 3) (.take 0 (.take 1 (.take 2 (.take 3 (.take 4 (.run 5 (.run 6 (.take 7 (.take 8 .fin))))))))) (Below w.heap.size V) (by kernel_rfl) (by kernel_rfl) (by kernel_rfl) (by kernel_rfl) (by kernel_rfl) (Below.refl _ _).drew ?_
    refine plan_pure (some 11) (.pointer (some ⟨q, 0, none⟩)) (by kernel_rfl) (by kernel_rfl) (by kernel_rfl) (fun _ => by kernel_rfl) ?_
    refine plan_pure (some 12) (.pointer (some ⟨q, 0, none⟩)) (by kernel_rfl) (by kernel_rfl) (by kernel_rfl) (fun _ => by kernel_rfl) ?_
    refine plan_load (some 13) 36 (.tmp 12) q 0 (GrdL O) _ (by kernel_rfl) (by kernel_rfl) (by kernel_rfl) (by kernel_rfl) (by kernel_rfl) (fun w' hw' => range_kept (n := w.heap.size) rO hql _ hw') Tryz.underlying36 rfl (by rw [GrdL_length]; exact infoGround) ?_
    refine plan_pure (some 14) (.pointer (some ⟨p, 0, none⟩)) (by kernel_rfl) (by kernel_rfl) (by kernel_rfl) (fun _ => by kernel_rfl) ?_
    refine plan_pure (some 15) (.pointer (some ⟨q, 0, none⟩)) (by kernel_rfl) (by kernel_rfl) (by kernel_rfl) (fun _ => by kernel_rfl) ?_
    have qd : Quiet V V.drew := (Quiet.refl _).drewN 1
    refine plan_call (some 16) 152 #[.pointer (some ⟨p, 0, none⟩), .pointer (some ⟨q, 0, none⟩)] (by kernel_rfl) (by kernel_rfl) (by kernel_rfl) (by kernel_rfl) ((l02Change_any G O HG.out HV.out HO.out p q _ (Quiet.grd qd gP.out.at') (Quiet.grd qd gQ.out.at')).mono ?_)
    rintro e w1 ⟨rfl, hq1⟩
    have hw1 := qd.trans hq1
    have SR := Lib.hid (gR.out.below (hw1.below (w.heap.size + 1)) (by omega))
    refine ⟨_, rfl, hw1.below _, plan_do none undef (w1.setCells w.heap.size 0 (Grd O).toList) (by kernel_rfl) (by kernel_rfl) (by kernel_rfl) (.inr ⟨store_op (x := .tmp 4) (y := .tmp 13) (cs := Grd O) (by kernel_rfl) (by kernel_rfl) (by kernel_rfl) (by rw [Grd_size]; exact SR.out.there) (by rw [Grd_size]; exact infoGround) (Grd_one _), rfl⟩) (below_setCells _ (Nat.le_refl _) _ _ _ (hw1.below _)) (plan_pure (some 5) (.float .f32 (mxL G O (cellTo G 64))) (by kernel_rfl) (by kernel_rfl) (by kernel_rfl) (fun _ => by kernel_rfl) (plan_pure (some 6) (.int .i64 0) (by kernel_rfl) (by kernel_rfl) (by kernel_rfl) (fun _ => by kernel_rfl) (plan_end (NoPanic.normal ?_))))⟩
    simp only [Act.put, List.setIfInBounds_toArray, List.set_cons_zero, List.set_cons_succ]
    go_wp2
    refine bodyPost_ret (results_gfn rfl _ _ _ O (mxL G O (cellTo G 64)) 0 rfl rfl rfl SR.out.store.range Tryz.underlying36 rfl infoG195) rfl ⟨by rw [HR.out], below_setCells _ (by omega) _ _ _ (HB.out.trans (hw1.below _))⟩

theorem stepV_is (G : Gd) : ∃ (A : Gd) (m : Nat) (n : Int), stepV G = .tuple #[.agg (Grd A), .float .f32 m, .int .i64 n] := by
  unfold stepV
  split
  · exact sweptV_is _ _
  · exact ⟨_, _, _, rfl⟩
end Go.Proofs.YtaghnminpfgdcaaGreatDoor
