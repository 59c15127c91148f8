/- IsStill: the program's and the model's. (The program's: the table of math/bits is laid.) No condition. -/
import Derived.Test.YtdhnneidkdoplaaDoorSwRel
import Derived.Test.YtdhnneidkdoplaaDoorPl
namespace Go.Proofs.YtdhnneidkdoplaaDoor
open Go.RowKit Go.Shelf
attribute [local go_sem] Oper.semAt_some run_store_float
set_option linter.unusedSimpArgs false
set_option linter.unusedVariables false

/-- Is a number at most another one? -/
def leX (m x : Nat) : Bool := (FloatKind.f32.format.order m x == some Ordering.lt || FloatKind.f32.format.order m x == some Ordering.eq)
def nxS (G : Gd) : Gd → Nat → Option Nat := fun _ k => headO G k
def stillV (G : Gd) (x : Nat) : Bool × Int := if validB G = true then (if amtB x = true then (if (swF (nxS G) G).2.1 = true then (leX (swF (nxS G) G).2.2 x, 0) else (false, 4)) else (false, 2)) else (false, 1)
theorem step_no {G : Gd} (hv : validB G = false) : stepV G = .tuple #[.agg (Grd zG), .float .f32 0, .int .i64 1] := by simp [stepV, hv]
theorem step_yes {G : Gd} (hv : validB G = true) : stepV G = sweptV (nxS G) G := by simp [stepV, hv]; rfl

set_option maxRecDepth 100000 in
set_option maxHeartbeats 2000000 in
theorem l02Within_is (x : Nat) (r : Bool) (h : amtB x = r) (w : World) : Calls Tryd.prog 72 #[.float .f32 x] w fun e w' => e = .returned (.bool r) ∧ w = w' := by
  subst h
  cases hp : plainB x
  · have Hp := Lib.hid hp
    rw [show amtB x = false by simp [amtB, hp]]
    clear hp
    go_enter Tryd.func72, Tryd.ntmps72
    go_wp2_with (go_at_call 66; refine (l01Plain_is x false Hp.out _).mono ?_; rintro e w' ⟨rfl, rfl⟩)
    go_ret
    exact ⟨rfl, rfl⟩
  · have Hp := Lib.hid hp
    cases h1 : (FloatKind.f32.format.order x 0 == some Ordering.gt || FloatKind.f32.format.order x 0 == some Ordering.eq)
    · rw [show amtB x = false by unfold amtB; rw [hp, h1]; rfl]
      clear hp
      go_enter Tryd.func72, Tryd.ntmps72
      go_wp2_with (go_at_call 66; refine (l01Plain_is x true Hp.out _).mono ?_; rintro e w' ⟨rfl, rfl⟩)
      go_ret
      exact ⟨rfl, rfl⟩
    · rw [show amtB x = true by unfold amtB; rw [hp, h1]; rfl]
      clear hp
      go_enter Tryd.func72, Tryd.ntmps72
      go_wp2_with (go_at_call 66; refine (l01Plain_is x true Hp.out _).mono ?_; rintro e w' ⟨rfl, rfl⟩)
      go_ret
      exact ⟨rfl, rfl⟩

set_option maxRecDepth 100000 in
set_option maxHeartbeats 2000000 in
theorem implStill_any (G : Gd) (x : Nat) (w : World) (hG : GdOk G) (hT : TabAt w) :
    Calls Tryd.prog 34 #[.agg (Grd G), .float .f32 x] w fun e w' => e = .returned (.tuple #[.bool (stillV G x).1, .int .i64 (stillV G x).2]) ∧ Below w.heap.size w w' := by
  have hz := (zero_of_info zeroGround).1
  go_enter Tryd.func34, Tryd.ntmps34
  go_upto_region 1 with (fail)
  obtain ⟨W, hW, zW, g1, hB⟩ := gbox1 G 32 w
  rw [hW]
  clear hW
  have r1 := g1.range
  have G1 := Lib.hid g1
  have HB := Lib.hid hB
  have HG := Lib.hid hG
  have TW := Lib.hid (hT.below hB (tab_lt hT))
  have hl : w.heap.size < W.heap.size := by omega
  clear zW g1 hB hG hT
  cases hv : validB G
  · have HE := Lib.hid (show stillV G x = (false, 1) by simp [stillV, hv])
    have Hv := Lib.hid hv
    clear hv
    go_wp2_with (first | (refine ld_stage 32 rfl ?_; refine wpList_load_mid rfl 32 _ rfl (w.heap.size) 0 rfl (GrdL (G)) _ r1 Tryd.underlying32 rfl (by rw [GrdL_length]; exact infoGround) ?_) | (go_at_call 67; have hc := (validGround_any G W HG.out TW.out (tab_lt TW.out)); rw [Hv.out] at hc; refine hc.mono ?_; clear hc; rintro e V ⟨rfl, hb1⟩; have r2 := range_kept r1 (by omega) _ hb1; have TV := Lib.hid (TW.out.below hb1 (tab_lt TW.out)); have B1 := Lib.hid (HB.out.trans (hb1.mono (by omega))); clear hb1))
    go_ret2
    exact ⟨by rw [HE.out]; rfl, B1.out⟩
  · have Hv := Lib.hid hv
    cases hx : amtB x
    · have HE := Lib.hid (show stillV G x = (false, 2) by simp [stillV, hv, hx])
      have Hx := Lib.hid hx
      clear hv hx
      go_wp2_with (first | (refine ld_stage 32 rfl ?_; refine wpList_load_mid rfl 32 _ rfl (w.heap.size) 0 rfl (GrdL (G)) _ r1 Tryd.underlying32 rfl (by rw [GrdL_length]; exact infoGround) ?_) | (go_at_call 67; have hc := (validGround_any G W HG.out TW.out (tab_lt TW.out)); rw [Hv.out] at hc; refine hc.mono ?_; clear hc; rintro e V ⟨rfl, hb1⟩; have r2 := range_kept r1 (by omega) _ hb1; have TV := Lib.hid (TW.out.below hb1 (tab_lt TW.out)); have B1 := Lib.hid (HB.out.trans (hb1.mono (by omega))); clear hb1) | (go_at_call 73; refine (isAmount_is x false Hx.out _).mono ?_; rintro e w' ⟨rfl, rfl⟩))
      go_ret2
      exact ⟨by rw [HE.out]; rfl, B1.out⟩
    · have Hx := Lib.hid hx
      cases hs : (swF (nxS G) G).2.1
      · have HE := Lib.hid (show stillV G x = (false, 4) by simp [stillV, hv, hx, hs])
        have HA := Lib.hid (show stepV G = .tuple #[.agg (Grd zG), .float .f32 0, .int .i64 4] from (step_yes hv).trans (sweptV_no hs))
        clear hv hx hs
        go_wp2_with (first | (refine ld_stage 32 rfl ?_; refine wpList_load_mid rfl 32 _ rfl (w.heap.size) 0 rfl (GrdL (G)) _ r1 Tryd.underlying32 rfl (by rw [GrdL_length]; exact infoGround) ?_) | (refine ld_stage 32 rfl ?_; refine wpList_load_mid rfl 32 _ rfl (w.heap.size) 0 rfl (GrdL (G)) _ r2 Tryd.underlying32 rfl (by rw [GrdL_length]; exact infoGround) ?_) | (go_at_call 67; have hc := (validGround_any G W HG.out TW.out (tab_lt TW.out)); rw [Hv.out] at hc; refine hc.mono ?_; clear hc; rintro e V ⟨rfl, hb1⟩; have r2 := range_kept r1 (by omega) _ hb1; have TV := Lib.hid (TW.out.below hb1 (tab_lt TW.out)); have B1 := Lib.hid (HB.out.trans (hb1.mono (by omega))); clear hb1) | (go_at_call 73; refine (isAmount_is x true Hx.out _).mono ?_; rintro e w' ⟨rfl, rfl⟩) | (go_at_call 36; have hc := implStep_any G V HG.out TV.out; rw [HA.out] at hc; refine hc.mono ?_; clear hc; rintro e V1 ⟨rfl, hV1⟩; have B2 := Lib.hid (B1.out.trans (hV1.mono (by have := B1.out.size; omega))); clear hV1) | (refine st_stage 32 rfl ?_; refine wpList_store_mid rfl 32 _ _ rfl _ 0 (Grd zG) rfl rfl (by rw [Grd_size]; exact new_thereG _ V1) (by rw [Grd_size]; exact infoGround) (Grd_one _) ?_; obtain ⟨X1, hX, zX1, gX1, bX1⟩ := stored_box zG 32 V1; rw [hX]; have B3 := Lib.hid (B2.out.trans (bX1.mono B2.out.size)); clear hX zX1 gX1 bX1))
        go_ret2
        exact ⟨by rw [HE.out]; rfl, B3.out⟩
      · have HE := Lib.hid (show stillV G x = (leX (swF (nxS G) G).2.2 x, 0) by simp [stillV, hv, hx, hs])
        have HA := Lib.hid ((step_yes hv).trans (sweptV_yes hs))
        clear hv hx hs
        generalize (swF (nxS G) G).1 = A at HA
        generalize (swF (nxS G) G).2.2 = m at HA HE
        go_wp2_with (first | (refine ld_stage 32 rfl ?_; refine wpList_load_mid rfl 32 _ rfl (w.heap.size) 0 rfl (GrdL (G)) _ r1 Tryd.underlying32 rfl (by rw [GrdL_length]; exact infoGround) ?_) | (refine ld_stage 32 rfl ?_; refine wpList_load_mid rfl 32 _ rfl (w.heap.size) 0 rfl (GrdL (G)) _ r2 Tryd.underlying32 rfl (by rw [GrdL_length]; exact infoGround) ?_) | (go_at_call 67; have hc := (validGround_any G W HG.out TW.out (tab_lt TW.out)); rw [Hv.out] at hc; refine hc.mono ?_; clear hc; rintro e V ⟨rfl, hb1⟩; have r2 := range_kept r1 (by omega) _ hb1; have TV := Lib.hid (TW.out.below hb1 (tab_lt TW.out)); have B1 := Lib.hid (HB.out.trans (hb1.mono (by omega))); clear hb1) | (go_at_call 73; refine (isAmount_is x true Hx.out _).mono ?_; rintro e w' ⟨rfl, rfl⟩) | (go_at_call 36; have hc := implStep_any G V HG.out TV.out; rw [HA.out] at hc; refine hc.mono ?_; clear hc; rintro e V1 ⟨rfl, hV1⟩; have B2 := Lib.hid (B1.out.trans (hV1.mono (by have := B1.out.size; omega))); clear hV1) | (refine st_stage 32 rfl ?_; refine wpList_store_mid rfl 32 _ _ rfl _ 0 (Grd A) rfl rfl (by rw [Grd_size]; exact new_thereG _ V1) (by rw [Grd_size]; exact infoGround) (Grd_one _) ?_; obtain ⟨X1, hX, zX1, gX1, bX1⟩ := stored_box A 32 V1; rw [hX]; have B3 := Lib.hid (B2.out.trans (bX1.mono B2.out.size)); clear hX zX1 gX1 bX1))
        go_ret2
        exact ⟨by rw [HE.out]; rfl, B3.out⟩

set_option maxRecDepth 100000 in
set_option maxHeartbeats 2000000 in
theorem specStill_any (G : Gd) (x : Nat) (w : World) (hG : GdOk G) :
    Calls Tryd.prog 33 #[.agg (Grd G), .float .f32 x] w fun e w' => e = .returned (.tuple #[.bool (stillV G x).1, .int .i64 (stillV G x).2]) ∧ Below w.heap.size w w' := by
  have hz := (zero_of_info zeroGround).1
  go_enter Tryd.func33, Tryd.ntmps33
  go_upto_region 1 with (fail)
  obtain ⟨W, hW, zW, g1, hB⟩ := gbox1 G 32 w
  rw [hW]
  clear hW
  have r1 := g1.range
  have G1 := Lib.hid g1
  have HB := Lib.hid hB
  have HG := Lib.hid hG
  have hl : w.heap.size < W.heap.size := by omega
  clear zW g1 hB hG
  cases hv : validB G
  · have HE := Lib.hid (show stillV G x = (false, 1) by simp [stillV, hv])
    have Hv := Lib.hid hv
    clear hv
    go_wp2_with (go_at_call 49; have hc := (l01Ok_any G w.heap.size W G1.out.at' HG.out); rw [Hv.out] at hc; refine hc.mono ?_; clear hc; rintro e w' ⟨rfl, n, rfl⟩; obtain ⟨V, hV⟩ : ∃ V, World.drewN W n = V := ⟨_, rfl⟩; have qV : Quiet W V := (by rw [← hV]; exact ⟨n, rfl⟩); rw [hV]; have r2 := Quiet.range qV r1; have B1 := Lib.hid (HB.out.trans (qV.below _)); clear hV qV)
    go_ret2
    exact ⟨by rw [HE.out]; rfl, B1.out⟩
  · have Hv := Lib.hid hv
    cases hx : amtB x
    · have HE := Lib.hid (show stillV G x = (false, 2) by simp [stillV, hv, hx])
      have Hx := Lib.hid hx
      clear hv hx
      go_wp2_with (first | (go_at_call 49; have hc := (l01Ok_any G w.heap.size W G1.out.at' HG.out); rw [Hv.out] at hc; refine hc.mono ?_; clear hc; rintro e w' ⟨rfl, n, rfl⟩; obtain ⟨V, hV⟩ : ∃ V, World.drewN W n = V := ⟨_, rfl⟩; have qV : Quiet W V := (by rw [← hV]; exact ⟨n, rfl⟩); rw [hV]; have r2 := Quiet.range qV r1; have B1 := Lib.hid (HB.out.trans (qV.below _)); clear hV qV) | (go_at_call 72; refine (l02Within_is x false Hx.out _).mono ?_; rintro e w' ⟨rfl, rfl⟩))
      go_ret2
      exact ⟨by rw [HE.out]; rfl, B1.out⟩
    · have Hx := Lib.hid hx
      cases hs : (swF (nxS G) G).2.1
      · have HE := Lib.hid (show stillV G x = (false, 4) by simp [stillV, hv, hx, hs])
        have HA := Lib.hid (show stepV G = .tuple #[.agg (Grd zG), .float .f32 0, .int .i64 4] from (step_yes hv).trans (sweptV_no hs))
        clear hv hx hs
        go_wp2_with (first | (refine ld_stage 32 rfl ?_; refine wpList_load_mid rfl 32 _ rfl (w.heap.size) 0 rfl (GrdL (G)) _ r2 Tryd.underlying32 rfl (by rw [GrdL_length]; exact infoGround) ?_) | (go_at_call 49; have hc := (l01Ok_any G w.heap.size W G1.out.at' HG.out); rw [Hv.out] at hc; refine hc.mono ?_; clear hc; rintro e w' ⟨rfl, n, rfl⟩; obtain ⟨V, hV⟩ : ∃ V, World.drewN W n = V := ⟨_, rfl⟩; have qV : Quiet W V := (by rw [← hV]; exact ⟨n, rfl⟩); rw [hV]; have r2 := Quiet.range qV r1; have B1 := Lib.hid (HB.out.trans (qV.below _)); clear hV qV) | (go_at_call 72; refine (l02Within_is x true Hx.out _).mono ?_; rintro e w' ⟨rfl, rfl⟩) | (go_at_call 35; have hc := specStep_any G V HG.out; rw [HA.out] at hc; refine hc.mono ?_; clear hc; rintro e V1 ⟨rfl, hV1⟩; have B2 := Lib.hid (B1.out.trans (hV1.mono (by have := B1.out.size; omega))); clear hV1) | (refine st_stage 32 rfl ?_; refine wpList_store_mid rfl 32 _ _ rfl _ 0 (Grd zG) rfl rfl (by rw [Grd_size]; exact new_thereG _ V1) (by rw [Grd_size]; exact infoGround) (Grd_one _) ?_; obtain ⟨X1, hX, zX1, gX1, bX1⟩ := stored_box zG 32 V1; rw [hX]; have B3 := Lib.hid (B2.out.trans (bX1.mono B2.out.size)); clear hX zX1 gX1 bX1))
        go_ret2
        exact ⟨by rw [HE.out]; rfl, B3.out⟩
      · have HE := Lib.hid (show stillV G x = (leX (swF (nxS G) G).2.2 x, 0) by simp [stillV, hv, hx, hs])
        have HA := Lib.hid ((step_yes hv).trans (sweptV_yes hs))
        clear hv hx hs
        generalize (swF (nxS G) G).1 = A at HA
        generalize (swF (nxS G) G).2.2 = m at HA HE
        go_wp2_with (first | (refine ld_stage 32 rfl ?_; refine wpList_load_mid rfl 32 _ rfl (w.heap.size) 0 rfl (GrdL (G)) _ r2 Tryd.underlying32 rfl (by rw [GrdL_length]; exact infoGround) ?_) | (go_at_call 49; have hc := (l01Ok_any G w.heap.size W G1.out.at' HG.out); rw [Hv.out] at hc; refine hc.mono ?_; clear hc; rintro e w' ⟨rfl, n, rfl⟩; obtain ⟨V, hV⟩ : ∃ V, World.drewN W n = V := ⟨_, rfl⟩; have qV : Quiet W V := (by rw [← hV]; exact ⟨n, rfl⟩); rw [hV]; have r2 := Quiet.range qV r1; have B1 := Lib.hid (HB.out.trans (qV.below _)); clear hV qV) | (go_at_call 72; refine (l02Within_is x true Hx.out _).mono ?_; rintro e w' ⟨rfl, rfl⟩) | (go_at_call 35; have hc := specStep_any G V HG.out; rw [HA.out] at hc; refine hc.mono ?_; clear hc; rintro e V1 ⟨rfl, hV1⟩; have B2 := Lib.hid (B1.out.trans (hV1.mono (by have := B1.out.size; omega))); clear hV1) | (refine st_stage 32 rfl ?_; refine wpList_store_mid rfl 32 _ _ rfl _ 0 (Grd A) rfl rfl (by rw [Grd_size]; exact new_thereG _ V1) (by rw [Grd_size]; exact infoGround) (Grd_one _) ?_; obtain ⟨X1, hX, zX1, gX1, bX1⟩ := stored_box A 32 V1; rw [hX]; have B3 := Lib.hid (B2.out.trans (bX1.mono B2.out.size)); clear hX zX1 gX1 bX1))
        go_ret2
        exact ⟨by rw [HE.out]; rfl, B3.out⟩
end Go.Proofs.YtdhnneidkdoplaaDoor
