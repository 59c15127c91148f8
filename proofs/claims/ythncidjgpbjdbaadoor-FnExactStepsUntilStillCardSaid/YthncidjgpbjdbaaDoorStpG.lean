/- StepGround, the program's. Condition: the table of math/bits is laid. -/
import Derived.Test.YthncidjgpbjdbaaDoorStpI
namespace Go.Proofs.YthncidjgpbjdbaaDoor
open Go Go.RowKit Go.Shelf
attribute [local go_sem] Oper.semAt_some run_store_float
set_option linter.unusedSimpArgs false
set_option linter.unusedVariables false

theorem seepValid_is (b : Nat) (r : Bool) (h : plainB b = r) (w : World) : Calls Tryd.prog 174 #[.float .f32 b] w fun e w' => e = .returned (.bool r) ∧ w = w' := by
  go_enter Tryd.func174, Tryd.ntmps174
  go_wp2_with (go_at_call 52; refine (isPlain_is b r h _).mono ?_; rintro e w' ⟨rfl, rfl⟩)
  go_ret
  exact ⟨rfl, rfl⟩
theorem mth_isValid (b n : Nat) (w : World) : (method (n + 1) 134 (.float .f32 b) "loop.example/g01288/impl.isValid").run Tryd.prog w = .ok (174, .float .f32 b) w := by kernel_rfl
set_option maxRecDepth 100000 in
set_option maxHeartbeats 2000000 in
theorem checkStep_any (G : Gd) (part p : Nat) (w : World) (hG : GdOk G) (hT : TabAt w) (hp : GBox w p G) :
    Calls Tryd.prog 86 #[.pointer (some ⟨p, 0, none⟩), .iface 134 (.float .f32 part)] w fun e w' => e = .returned (.int .i64 (askT G part)) ∧ Below w.heap.size w w' := by
  have HG := Lib.hid hG
  have HT := Lib.hid hT
  have r1 := hp.range
  clear hG hT hp
  have hm := mth_isValid part
  cases hv : validB G
  · have Hv := Lib.hid hv
    have HR := Lib.hid (show askT G part = 1 by simp [askT, hv])
    clear hv
    go_enter Tryd.func86, Tryd.ntmps86
    go_wp2_with (first | (refine ld_stage 35 rfl ?_; refine wpList_load_mid rfl 35 _ rfl (p) 0 rfl (GrdL (G)) _ r1 Tryd.underlying35 rfl (by rw [GrdL_length]; exact infoGround) ?_) | (go_at_call 50; have hc := (validGround_any G w HG.out HT.out (tab_lt HT.out)); rw [Hv.out] at hc; refine hc.mono ?_; clear hc; rintro e V ⟨rfl, hb⟩; have Hb := Lib.hid hb; clear hb))
    go_ret
    exact ⟨by rw [HR.out]; rfl, Hb.out⟩
  · have Hv := Lib.hid hv
    cases hq : plainB part
    · have Hq := Lib.hid hq
      have HR := Lib.hid (show askT G part = 1 by simp [askT, hq])
      clear hv hq
      go_enter Tryd.func86, Tryd.ntmps86
      go_wp2_with (first | (refine ld_stage 35 rfl ?_; refine wpList_load_mid rfl 35 _ rfl (p) 0 rfl (GrdL (G)) _ r1 Tryd.underlying35 rfl (by rw [GrdL_length]; exact infoGround) ?_) | (go_at_call 50; have hc := (validGround_any G w HG.out HT.out (tab_lt HT.out)); rw [Hv.out] at hc; refine hc.mono ?_; clear hc; rintro e V ⟨rfl, hb⟩; have Hb := Lib.hid hb; clear hb) | (go_at_call 174; refine (seepValid_is part false Hq.out _).mono ?_; rintro e w' ⟨rfl, rfl⟩))
      go_ret
      exact ⟨by rw [HR.out]; rfl, Hb.out⟩
    · have Hq := Lib.hid hq
      have HR := Lib.hid (show askT G part = 0 by simp [askT, hv, hq])
      clear hv hq
      go_enter Tryd.func86, Tryd.ntmps86
      go_wp2_with (first | (refine ld_stage 35 rfl ?_; refine wpList_load_mid rfl 35 _ rfl (p) 0 rfl (GrdL (G)) _ r1 Tryd.underlying35 rfl (by rw [GrdL_length]; exact infoGround) ?_) | (go_at_call 50; have hc := (validGround_any G w HG.out HT.out (tab_lt HT.out)); rw [Hv.out] at hc; refine hc.mono ?_; clear hc; rintro e V ⟨rfl, hb⟩; have Hb := Lib.hid hb; clear hb) | (go_at_call 174; refine (seepValid_is part true Hq.out _).mono ?_; rintro e w' ⟨rfl, rfl⟩))
      go_ret
      exact ⟨by rw [HR.out]; rfl, Hb.out⟩

set_option maxRecDepth 100000 in
set_option maxHeartbeats 2000000 in
theorem implStepGround_any (G : Gd) (part : Nat) (w : World) (hG : GdOk G) (hT : TabAt w) :
    Calls Tryd.prog 41 #[.agg (Grd G), .float .f32 part] w fun e w' => e = .returned (GN (stpV G part).1 (stpV G part).2) ∧ Below w.heap.size w w' := by
  have hz := (zero_of_info zeroGround).1
  go_enter Tryd.func41, Tryd.ntmps41
  go_upto_region 1 with (fail)
  obtain ⟨W, hW, zW, g1, g2, hB⟩ := gbox2 G zG 35 35 w
  rw [hW]
  clear hW
  have G1 := Lib.hid g1
  have G2 := Lib.hid g2
  have HB := Lib.hid hB
  have HG := Lib.hid hG
  have HT := Lib.hid (hT.below hB (tab_lt hT))
  clear g1 g2 hB hG hT
  rcases askT_or G part with ha | ha
  · have Ha := Lib.hid ha
    have Hv := Lib.hid (askT_yes ha).1
    have HR := Lib.hid (show stpV G part = stpR G part by simp [stpV, ha])
    obtain ⟨A, n, hA⟩ : ∃ A n, stpR G part = (A, n) := ⟨_, _, rfl⟩
    have HA := Lib.hid hA
    have HN := Lib.hid (show GN (stpR G part).1 (stpR G part).2 = .tuple #[.agg (Grd A), .int .i64 n] by rw [hA]; rfl)
    clear ha hA
    go_wp2_with (first | (go_at_call 86; have hc := checkStep_any G part w.heap.size W HG.out HT.out G1.out; rw [Ha.out] at hc; refine hc.mono ?_; clear hc; rintro e V ⟨rfl, hb⟩; have P1 := Lib.hid (G1.out.below hb (by omega)); have P2 := Lib.hid (G2.out.below hb (by omega)); have TV := Lib.hid (HT.out.below hb (tab_lt HT.out)); have BV := Lib.hid (HB.out.trans (hb.mono (by omega))); have r1 := P1.out.range; clear hb) | (refine ld_stage 35 rfl ?_; refine wpList_load_mid rfl 35 _ rfl (w.heap.size) 0 rfl (GrdL (G)) _ r1 Tryd.underlying35 rfl (by rw [GrdL_length]; exact infoGround) ?_) | (go_at_call 87; have hc := behind_any G part V Hv.out HG.out TV.out; rw [HN.out] at hc; refine hc.mono ?_; clear hc; rintro e V2 ⟨rfl, hb⟩; have S2 := Lib.hid (P2.out.below hb P2.out.lt); have t1 := S2.out.there; have B2 := Lib.hid (BV.out.trans (hb.mono BV.out.size)); clear hb) | (refine st_stage 35 rfl ?_; refine wpList_store_mid rfl 35 _ _ rfl _ 0 (Grd (A)) rfl rfl (by rw [Grd_size]; with_reducible exact t1) (by rw [Grd_size]; exact infoGround) (Grd_one _) ?_))
    refine bodyPost_ret (ret_GN rfl rfl rfl S2.out.store.range) rfl ⟨by rw [HR.out, HA.out], below_setCells _ (by omega) _ _ _ B2.out⟩
  · have Ha := Lib.hid ha
    have HR := Lib.hid (show stpV G part = (zG, 1) by simp [stpV, ha])
    clear ha
    go_wp2_with (first | (go_at_call 86; have hc := checkStep_any G part w.heap.size W HG.out HT.out G1.out; rw [Ha.out] at hc; refine hc.mono ?_; clear hc; rintro e V ⟨rfl, hb⟩; have S2 := Lib.hid (G2.out.below hb (by omega)); have t1 := S2.out.there; have B2 := Lib.hid (HB.out.trans (hb.mono (by omega))); clear hb) | (refine st_stage 35 rfl ?_; refine wpList_store_mid rfl 35 _ _ rfl _ 0 (Grd (zG)) rfl rfl (by rw [Grd_size]; with_reducible exact t1) (by rw [Grd_size]; exact infoGround) (Grd_one _) ?_))
    refine bodyPost_ret (ret_GN rfl rfl rfl S2.out.store.range) rfl ⟨by rw [HR.out], below_setCells _ (by omega) _ _ _ B2.out⟩
end Go.Proofs.YthncidjgpbjdbaaDoor
