/- SweepBoth: the program's and the model's. (The program's: the table of math/bits is laid.) No condition. -/
import Derived.Test.YtdhnneidkdoplaaDoorSwCol
namespace Go.Proofs.YtdhnneidkdoplaaDoor
open Go.RowKit Go.Shelf
attribute [local go_sem] Oper.semAt_some run_store_float
set_option linter.unusedSimpArgs false
set_option linter.unusedVariables false

/-- A sweep as it is reckoned. -/
def swF (nx : Gd → Nat → Option Nat) (G : Gd) : Gd × Bool × Nat := swp nx G (bitsL (cellsN G))
def zV (n : Int) : Value := .tuple #[.agg (Grd zG), .float .f32 0, .int .i64 n]
def bothV (G : Gd) : Value := if validB G = true then (if (swF (nxC 0) G).2.1 = true then (if (swF (nxC 1) (swF (nxC 0) G).1).2.1 = true then .tuple #[.agg (Grd (swF (nxC 1) (swF (nxC 0) G).1).1), .float .f32 (maxN (swF (nxC 0) G).2.2 (swF (nxC 1) (swF (nxC 0) G).1).2.2), .int .i64 0] else zV 4) else zV 4) else zV 1
theorem bothV_is (G : Gd) : ∃ (A : Gd) (m : Nat) (n : Int), bothV G = .tuple #[.agg (Grd A), .float .f32 m, .int .i64 n] := by
  unfold bothV zV
  split
  · split
    · split
      · exact ⟨_, _, _, rfl⟩
      · exact ⟨_, _, _, rfl⟩
    · exact ⟨_, _, _, rfl⟩
  · exact ⟨_, _, _, rfl⟩
theorem swF_valid {nx : Gd → Nat → Option Nat} {G : Gd} (hv : validB G = true) (hG : GdOk G) (h : (swF nx G).2.1 = true) : validB (swF nx G).1 = true ∧ GdOk (swF nx G).1 :=
  swp_valid nx hv hG (bitsL (cellsN G)) (by rw [cellL_bits]; exact cellTo_ok G 64 (Nat.le_refl _)) h
theorem sweptV_yes {nx : Gd → Nat → Option Nat} {G : Gd} (h : (swF nx G).2.1 = true) : sweptV nx G = .tuple #[.agg (Grd (swF nx G).1), .float .f32 (swF nx G).2.2, .int .i64 0] := by
  unfold swF at h ⊢
  simp [sweptV, h]
theorem sweptV_no {nx : Gd → Nat → Option Nat} {G : Gd} (h : (swF nx G).2.1 = false) : sweptV nx G = zV 4 := by
  unfold swF at h
  simp [sweptV, h, zV]
/-- What sweeps return as the greatest change is a size. -/
theorem swFold_size (nx : Gd → Nat → Option Nat) (G : Gd) : ∀ n, n ≤ 64 → validB G = true → GdOk G → (swp nx G (cellTo G n)).2.1 = true → nanK .f32 (swp nx G (cellTo G n)).2.2 = false ∧ (swp nx G (cellTo G n)).2.2 < 2147483648
  | 0, _, _, _, _ => ⟨by show nanK .f32 0 = false; decide +kernel, by show 0 < 2147483648; omega⟩
  | n + 1, hn, hv, hG, ho => by
    rw [cellTo_succ] at ho ⊢
    cases hi : isB G n
    · rw [hi] at ho
      simp only [Bool.false_eq_true, if_false] at ho ⊢
      exact swFold_size nx G n (by omega) hv hG ho
    · rw [hi] at ho
      simp only [if_true] at ho ⊢
      rw [swp_snoc] at ho ⊢
      have h2 : ((swp nx G (cellTo G n)).2.1 && plainO (nx (swp nx G (cellTo G n)).1 n)) = true := ho
      rw [Bool.and_eq_true] at h2
      obtain ⟨m1, m2⟩ := swFold_size nx G n (by omega) hv hG h2.1
      have hb : plainB ((nx (swp nx G (cellTo G n)).1 n).getD 0) = true := by
        have h3 := h2.2
        cases hx : nx (swp nx G (cellTo G n)).1 n with
        | none => rw [hx] at h3; cases h3
        | some b => rw [hx] at h3; exact h3
      have hh : plainB ((swp nx G (cellTo G n)).1.h n) = true := by
        rw [swp_other nx G n n (Nat.le_refl _)]
        exact valid_heads hv (by omega) hi
      obtain ⟨n1, n2⟩ := chgN_ok hb hh
      exact maxN_ok m1 m2 n1 n2
theorem swF_size {nx : Gd → Nat → Option Nat} {G : Gd} (hv : validB G = true) (hG : GdOk G) (h : (swF nx G).2.1 = true) : nanK .f32 (swF nx G).2.2 = false ∧ (swF nx G).2.2 < 2147483648 := by
  have e : bitsL (cellsN G) = cellTo G 64 := cellL_bits G
  unfold swF at h ⊢
  rw [e] at h ⊢
  exact swFold_size nx G 64 (Nat.le_refl _) hv hG h
theorem col_no {G : Gd} {c : Int} (hv : validB G = false) : colV G c = zV 1 := by simp [colV, hv, zV]
theorem col_is {G : Gd} {c : Int} (hv : validB G = true) (hc : c = 0 ∨ c = 1) : colV G c = sweptV (nxC c) G := by simp [colV, hv, hc]

set_option maxRecDepth 100000 in
set_option maxHeartbeats 2000000 in
theorem implBoth_any (G : Gd) (w : World) (hG : GdOk G) (hT : TabAt w) :
    Calls Tryd.prog 42 #[.agg (Grd G)] w fun e w' => e = .returned (bothV G) ∧ Below w.heap.size w w' := by
  obtain ⟨EV, hE⟩ : ∃ v, bothV G = v := ⟨_, rfl⟩
  rw [hE]
  have hz := (zero_of_info zeroGround).1
  go_enter Tryd.func42, Tryd.ntmps42
  go_upto_region 1 with (fail)
  obtain ⟨W, hW, zW, g1, g2, hB⟩ := gbox2 G zG 32 32 w
  rw [hW]
  clear hW
  have r1 := g1.range
  have G1 := Lib.hid g1
  have G2 := Lib.hid g2
  have HB := Lib.hid hB
  have HG := Lib.hid hG
  have TW := Lib.hid (hT.below hB (tab_lt hT))
  have hl : w.heap.size + 1 < W.heap.size := by omega
  clear zW g1 g2 hB hG hT
  cases hv : validB G
  · have HA := Lib.hid (show colV G 0 = .tuple #[.agg (Grd zG), .float .f32 0, .int .i64 1] from col_no hv)
    have HE := Lib.hid (show EV = zV 1 by rw [← hE]; simp [bothV, hv])
    clear hv hE
    go_upto_region 2 with (first | (refine ld_stage 32 rfl ?_; refine wpList_load_mid rfl 32 _ rfl (w.heap.size) 0 rfl (GrdL (G)) _ r1 Tryd.underlying32 rfl (by rw [GrdL_length]; exact infoGround) ?_) | (go_at_call 40; have hc := implColour_any G 0 W HG.out TW.out; rw [HA.out] at hc; refine hc.mono ?_; clear hc; rintro e V1 ⟨rfl, hV1⟩) | (refine st_stage 32 rfl ?_; refine wpList_store_mid rfl 32 _ _ rfl _ 0 (Grd zG) rfl rfl (by rw [Grd_size]; exact new_thereG _ V1) (by rw [Grd_size]; exact infoGround) (Grd_one _) ?_; obtain ⟨X1, hX, zX1, gX1, bX1⟩ := stored_box zG 32 V1; rw [hX]; have hX1 : V1.heap.size < X1.heap.size := (by omega); clear hX zX1))
    have kX1 := hV1.trans (bX1.mono hV1.size)
    have P2 := Lib.hid (G2.out.below kX1 hl)
    have B1 := Lib.hid (HB.out.trans (kX1.mono (by omega)))
    have zz : W.heap.size ≤ V1.heap.size := hV1.size
    have tt := P2.out.there
    go_wp2_with (refine st_stage 32 rfl ?_; refine wpList_store_mid rfl 32 _ _ rfl _ 0 (Grd (zG)) rfl rfl (by rw [Grd_size]; with_reducible exact tt) (by rw [Grd_size]; exact infoGround) (Grd_one _) ?_)
    refine bodyPost_ret (results_gfn rfl _ _ _ zG 0 1 rfl rfl rfl P2.out.store.range Tryd.underlying32 rfl infoG195) rfl ⟨by rw [HE.out]; rfl, below_setCells _ (by omega) _ _ _ B1.out⟩
  · have HA := Lib.hid (col_is (c := 0) hv (.inl rfl))
    cases h0 : (swF (nxC 0) G).2.1
    · have HA := Lib.hid (show colV G 0 = .tuple #[.agg (Grd zG), .float .f32 0, .int .i64 4] from HA.out.trans (sweptV_no h0))
      have HE := Lib.hid (show EV = zV 4 by rw [← hE]; simp [bothV, hv, h0])
      clear hv hE h0
      go_upto_region 2 with (first | (refine ld_stage 32 rfl ?_; refine wpList_load_mid rfl 32 _ rfl (w.heap.size) 0 rfl (GrdL (G)) _ r1 Tryd.underlying32 rfl (by rw [GrdL_length]; exact infoGround) ?_) | (go_at_call 40; have hc := implColour_any G 0 W HG.out TW.out; rw [HA.out] at hc; refine hc.mono ?_; clear hc; rintro e V1 ⟨rfl, hV1⟩) | (refine st_stage 32 rfl ?_; refine wpList_store_mid rfl 32 _ _ rfl _ 0 (Grd zG) rfl rfl (by rw [Grd_size]; exact new_thereG _ V1) (by rw [Grd_size]; exact infoGround) (Grd_one _) ?_; obtain ⟨X1, hX, zX1, gX1, bX1⟩ := stored_box zG 32 V1; rw [hX]; have hX1 : V1.heap.size < X1.heap.size := (by omega); clear hX zX1))
      have kX1 := hV1.trans (bX1.mono hV1.size)
      have P2 := Lib.hid (G2.out.below kX1 hl)
      have B1 := Lib.hid (HB.out.trans (kX1.mono (by omega)))
      have zz : W.heap.size ≤ V1.heap.size := hV1.size
      have tt := P2.out.there
      go_wp2_with (refine st_stage 32 rfl ?_; refine wpList_store_mid rfl 32 _ _ rfl _ 0 (Grd (zG)) rfl rfl (by rw [Grd_size]; with_reducible exact tt) (by rw [Grd_size]; exact infoGround) (Grd_one _) ?_)
      refine bodyPost_ret (results_gfn rfl _ _ _ zG 0 4 rfl rfl rfl P2.out.store.range Tryd.underlying32 rfl infoG195) rfl ⟨by rw [HE.out]; rfl, below_setCells _ (by omega) _ _ _ B1.out⟩
    · obtain ⟨vA, oA⟩ := swF_valid hv HG.out h0
      obtain ⟨s1, s2⟩ := swF_size hv HG.out h0
      have HA := Lib.hid (HA.out.trans (sweptV_yes h0))
      have HC := Lib.hid (col_is (c := 1) vA (.inr rfl))
      have OA := Lib.hid oA
      have hE2 : EV = if (swF (nxC 1) (swF (nxC 0) G).1).2.1 = true then .tuple #[.agg (Grd (swF (nxC 1) (swF (nxC 0) G).1).1), .float .f32 (maxN (swF (nxC 0) G).2.2 (swF (nxC 1) (swF (nxC 0) G).1).2.2), .int .i64 0] else zV 4 := by rw [← hE]; simp [bothV, hv, h0]
      have VA := Lib.hid vA
      clear hv hE h0 oA vA
      generalize (swF (nxC 0) G).1 = A at HA HC OA VA hE2
      generalize (swF (nxC 0) G).2.2 = m at HA s1 s2 hE2
      go_upto_region 2 with (first | (refine ld_stage 32 rfl ?_; refine wpList_load_mid rfl 32 _ rfl (w.heap.size) 0 rfl (GrdL (G)) _ r1 Tryd.underlying32 rfl (by rw [GrdL_length]; exact infoGround) ?_) | (go_at_call 40; have hc := implColour_any G 0 W HG.out TW.out; rw [HA.out] at hc; refine hc.mono ?_; clear hc; rintro e V1 ⟨rfl, hV1⟩) | (refine st_stage 32 rfl ?_; refine wpList_store_mid rfl 32 _ _ rfl _ 0 (Grd A) rfl rfl (by rw [Grd_size]; exact new_thereG _ V1) (by rw [Grd_size]; exact infoGround) (Grd_one _) ?_; obtain ⟨X1, hX, zX1, gX1, bX1⟩ := stored_box A 32 V1; rw [hX]; have hX1 : V1.heap.size < X1.heap.size := (by omega); clear hX zX1))
      have kX1 := hV1.trans (bX1.mono hV1.size)
      have P2 := Lib.hid (G2.out.below kX1 hl)
      have B1 := Lib.hid (HB.out.trans (kX1.mono (by omega)))
      have zz : W.heap.size ≤ V1.heap.size := hV1.size
      have r2 := gX1.range
      have GA := Lib.hid gX1
      have T1 := Lib.hid (TW.out.below kX1 (tab_lt TW.out))
      clear kX1 gX1 bX1 hV1
      cases h1 : (swF (nxC 1) A).2.1
      · have HC := Lib.hid (show colV A 1 = .tuple #[.agg (Grd zG), .float .f32 0, .int .i64 4] from HC.out.trans (sweptV_no h1))
        have HE := Lib.hid (show EV = zV 4 by rw [hE2, h1]; rfl)
        clear h1 hE2
        go_upto_region 5 with (first | (refine ld_stage 32 rfl ?_; refine wpList_load_mid rfl 32 _ rfl (V1.heap.size) 0 rfl (GrdL (A)) _ r2 Tryd.underlying32 rfl (by rw [GrdL_length]; exact infoGround) ?_) | (go_at_call 40; have hc := implColour_any A 1 X1 OA.out T1.out; rw [HC.out] at hc; refine hc.mono ?_; clear hc; rintro e V2 ⟨rfl, hV2⟩) | (refine st_stage 32 rfl ?_; refine wpList_store_mid rfl 32 _ _ rfl _ 0 (Grd zG) rfl rfl (by rw [Grd_size]; exact new_thereG _ V2) (by rw [Grd_size]; exact infoGround) (Grd_one _) ?_; obtain ⟨X2, hX, zX2, gX2, bX2⟩ := stored_box zG 32 V2; rw [hX]; have hX2 : V2.heap.size < X2.heap.size := (by omega); clear hX zX2))
        have kX2 := hV2.trans (bX2.mono hV2.size)
        have P3 := Lib.hid (P2.out.below kX2 (by omega))
        have B2 := Lib.hid (B1.out.trans (kX2.mono (by omega)))
        have tt := P3.out.there
        go_wp2_with (refine st_stage 32 rfl ?_; refine wpList_store_mid rfl 32 _ _ rfl _ 0 (Grd (zG)) rfl rfl (by rw [Grd_size]; with_reducible exact tt) (by rw [Grd_size]; exact infoGround) (Grd_one _) ?_)
        refine bodyPost_ret (results_gfn rfl _ _ _ zG 0 4 rfl rfl rfl P3.out.store.range Tryd.underlying32 rfl infoG195) rfl ⟨by rw [HE.out]; rfl, below_setCells _ (by omega) _ _ _ B2.out⟩
      · obtain ⟨q1, q2⟩ := swF_size VA.out OA.out h1
        have HC := Lib.hid (HC.out.trans (sweptV_yes h1))
        have HE := Lib.hid (show EV = .tuple #[.agg (Grd (swF (nxC 1) A).1), .float .f32 (maxN m (swF (nxC 1) A).2.2), .int .i64 0] by rw [hE2, h1]; rfl)
        clear h1 hE2
        generalize (swF (nxC 1) A).1 = A2 at HC HE
        generalize (swF (nxC 1) A).2.2 = m2 at HC HE q1 q2
        go_upto_region 5 with (first | (refine ld_stage 32 rfl ?_; refine wpList_load_mid rfl 32 _ rfl (V1.heap.size) 0 rfl (GrdL (A)) _ r2 Tryd.underlying32 rfl (by rw [GrdL_length]; exact infoGround) ?_) | (go_at_call 40; have hc := implColour_any A 1 X1 OA.out T1.out; rw [HC.out] at hc; refine hc.mono ?_; clear hc; rintro e V2 ⟨rfl, hV2⟩) | (refine st_stage 32 rfl ?_; refine wpList_store_mid rfl 32 _ _ rfl _ 0 (Grd A2) rfl rfl (by rw [Grd_size]; exact new_thereG _ V2) (by rw [Grd_size]; exact infoGround) (Grd_one _) ?_; obtain ⟨X2, hX, zX2, gX2, bX2⟩ := stored_box A2 32 V2; rw [hX]; have hX2 : V2.heap.size < X2.heap.size := (by omega); clear hX zX2))
        have kX2 := hV2.trans (bX2.mono hV2.size)
        have P3 := Lib.hid (P2.out.below kX2 (by omega))
        have B2 := Lib.hid (B1.out.trans (kX2.mono (by omega)))
        have r3 := gX2.range
        have tt := P3.out.there
        have hm := fun (w : World) (tt : Array TypeId) (t : TypeId) => max_sizes (P := Tryd.prog) w tt t m m2 s1 q1 s2
        go_wp2_with (first | (refine ld_stage 32 rfl ?_; refine wpList_load_mid rfl 32 _ rfl (V2.heap.size) 0 rfl (GrdL (A2)) _ r3 Tryd.underlying32 rfl (by rw [GrdL_length]; exact infoGround) ?_) | (refine st_stage 32 rfl ?_; refine wpList_store_mid rfl 32 _ _ rfl _ 0 (Grd (A2)) rfl rfl (by rw [Grd_size]; with_reducible exact tt) (by rw [Grd_size]; exact infoGround) (Grd_one _) ?_))
        refine bodyPost_ret (results_gfn rfl _ _ _ A2 (maxN m m2) 0 rfl rfl rfl P3.out.store.range Tryd.underlying32 rfl infoG195) rfl ⟨by rw [HE.out], below_setCells _ (by omega) _ _ _ B2.out⟩

set_option maxRecDepth 100000 in
set_option maxHeartbeats 2000000 in
theorem specBoth_any (G : Gd) (w : World) (hG : GdOk G) :
    Calls Tryd.prog 41 #[.agg (Grd G)] w fun e w' => e = .returned (bothV G) ∧ Below w.heap.size w w' := by
  obtain ⟨EV, hE⟩ : ∃ v, bothV G = v := ⟨_, rfl⟩
  rw [hE]
  have hz := (zero_of_info zeroGround).1
  go_enter Tryd.func41, Tryd.ntmps41
  go_upto_region 1 with (fail)
  obtain ⟨W, hW, zW, g1, g2, hB⟩ := gbox2 G zG 32 32 w
  rw [hW]
  clear hW
  have G1 := Lib.hid g1
  have G2 := Lib.hid g2
  have HB := Lib.hid hB
  have HG := Lib.hid hG
  clear g1 g2 hB hG
  cases hv : validB G
  · have Hv := Lib.hid hv
    have HE := Lib.hid (show EV = zV 1 by rw [← hE]; simp [bothV, hv])
    clear hv hE
    go_wp2_with (first | (go_at_call 49; have hc := (l01Ok_any G w.heap.size W G1.out.at' HG.out); rw [Hv.out] at hc; refine hc.mono ?_; clear hc; rintro e w' ⟨rfl, n1, rfl⟩; have S1 := Lib.hid (G1.out.below (Quiet.below ⟨n1, rfl⟩ (w.heap.size + 2) : Below (w.heap.size + 2) W (World.drewN W n1)) (by omega)); have S2 := Lib.hid (G2.out.below (Quiet.below ⟨n1, rfl⟩ (w.heap.size + 2) : Below (w.heap.size + 2) W (World.drewN W n1)) (by omega)); have t1 := S2.out.there; have BW := Lib.hid (HB.out.trans (Quiet.below ⟨n1, rfl⟩ _) : Below w.heap.size w (World.drewN W n1))) | (refine st_stage 32 rfl ?_; refine wpList_store_mid rfl 32 _ _ rfl _ 0 (Grd (zG)) rfl rfl (by rw [Grd_size]; with_reducible exact t1) (by rw [Grd_size]; exact infoGround) (Grd_one _) ?_))
    refine bodyPost_ret (results_gfn rfl _ _ _ zG 0 1 rfl rfl rfl S2.out.store.range Tryd.underlying32 rfl infoG195) rfl ⟨by rw [HE.out]; rfl, below_setCells _ (by omega) _ _ _ BW.out⟩
  · have Hv := Lib.hid hv
    cases h0 : (swF (nxC 0) G).2.1
    · have HA := Lib.hid (show sweptV (nxC 0) G = .tuple #[.agg (Grd zG), .float .f32 0, .int .i64 4] from sweptV_no h0)
      have HE := Lib.hid (show EV = zV 4 by rw [← hE]; simp [bothV, hv, h0])
      clear hv hE h0
      go_upto_region 4 with (first | (go_at_call 49; have hc := (l01Ok_any G w.heap.size W G1.out.at' HG.out); rw [Hv.out] at hc; refine hc.mono ?_; clear hc; rintro e w' ⟨rfl, n1, rfl⟩; obtain ⟨Y, hY⟩ : ∃ Y, World.drewN W n1 = Y := ⟨_, rfl⟩; have qY : Quiet W Y := (by rw [← hY]; exact ⟨n1, rfl⟩); rw [hY]; have g1 := G1.out.below (qY.below (w.heap.size + 2)) (by omega); have g2 := G2.out.below (qY.below (w.heap.size + 2)) (by omega); have bY := HB.out.trans (qY.below _); have zY : w.heap.size + 1 < Y.heap.size := (by have := g2.lt; omega); clear hY qY) | (go_at_call 77; have hc := l02Sweep_any G 0 (.inr (.inl rfl)) w.heap.size Y g1 Hv.out HG.out; rw [HA.out] at hc; refine hc.mono ?_; clear hc; rintro e V1 ⟨rfl, hV1⟩) | (refine st_stage 32 rfl ?_; refine wpList_store_mid rfl 32 _ _ rfl _ 0 (Grd zG) rfl rfl (by rw [Grd_size]; exact new_thereG _ V1) (by rw [Grd_size]; exact infoGround) (Grd_one _) ?_; obtain ⟨X1, hX, zX1, gX1, bX1⟩ := stored_box zG 32 V1; rw [hX]; have hX1 : V1.heap.size < X1.heap.size := (by omega); clear hX zX1))
      have kX1 := hV1.trans (bX1.mono hV1.size)
      have P2 := Lib.hid (g2.below kX1 zY)
      have B1 := Lib.hid (bY.trans (kX1.mono (by omega)))
      have zz : Y.heap.size ≤ V1.heap.size := hV1.size
      have tt := P2.out.there
      go_wp2_with (refine st_stage 32 rfl ?_; refine wpList_store_mid rfl 32 _ _ rfl _ 0 (Grd (zG)) rfl rfl (by rw [Grd_size]; with_reducible exact tt) (by rw [Grd_size]; exact infoGround) (Grd_one _) ?_)
      refine bodyPost_ret (results_gfn rfl _ _ _ zG 0 4 rfl rfl rfl P2.out.store.range Tryd.underlying32 rfl infoG195) rfl ⟨by rw [HE.out]; rfl, below_setCells _ (by omega) _ _ _ B1.out⟩
    · obtain ⟨vA, oA⟩ := swF_valid hv HG.out h0
      have HA := Lib.hid (sweptV_yes h0)
      have OA := Lib.hid oA
      have hE2 : EV = if (swF (nxC 1) (swF (nxC 0) G).1).2.1 = true then .tuple #[.agg (Grd (swF (nxC 1) (swF (nxC 0) G).1).1), .float .f32 (maxN (swF (nxC 0) G).2.2 (swF (nxC 1) (swF (nxC 0) G).1).2.2), .int .i64 0] else zV 4 := by rw [← hE]; simp [bothV, hv, h0]
      have VA := Lib.hid vA
      clear hv hE h0 oA vA
      generalize (swF (nxC 0) G).1 = A at HA OA VA hE2
      generalize (swF (nxC 0) G).2.2 = m at HA hE2
      go_upto_region 4 with (first | (go_at_call 49; have hc := (l01Ok_any G w.heap.size W G1.out.at' HG.out); rw [Hv.out] at hc; refine hc.mono ?_; clear hc; rintro e w' ⟨rfl, n1, rfl⟩; obtain ⟨Y, hY⟩ : ∃ Y, World.drewN W n1 = Y := ⟨_, rfl⟩; have qY : Quiet W Y := (by rw [← hY]; exact ⟨n1, rfl⟩); rw [hY]; have g1 := G1.out.below (qY.below (w.heap.size + 2)) (by omega); have g2 := G2.out.below (qY.below (w.heap.size + 2)) (by omega); have bY := HB.out.trans (qY.below _); have zY : w.heap.size + 1 < Y.heap.size := (by have := g2.lt; omega); clear hY qY) | (go_at_call 77; have hc := l02Sweep_any G 0 (.inr (.inl rfl)) w.heap.size Y g1 Hv.out HG.out; rw [HA.out] at hc; refine hc.mono ?_; clear hc; rintro e V1 ⟨rfl, hV1⟩) | (refine st_stage 32 rfl ?_; refine wpList_store_mid rfl 32 _ _ rfl _ 0 (Grd A) rfl rfl (by rw [Grd_size]; exact new_thereG _ V1) (by rw [Grd_size]; exact infoGround) (Grd_one _) ?_; obtain ⟨X1, hX, zX1, gX1, bX1⟩ := stored_box A 32 V1; rw [hX]; have hX1 : V1.heap.size < X1.heap.size := (by omega); clear hX zX1))
      have kX1 := hV1.trans (bX1.mono hV1.size)
      have P2 := Lib.hid (g2.below kX1 zY)
      have B1 := Lib.hid (bY.trans (kX1.mono (by omega)))
      have zz : Y.heap.size ≤ V1.heap.size := hV1.size
      have GA := Lib.hid gX1
      clear kX1 bX1 hV1 g1 g2 bY
      cases h1 : (swF (nxC 1) A).2.1
      · have HC := Lib.hid (show sweptV (nxC 1) A = .tuple #[.agg (Grd zG), .float .f32 0, .int .i64 4] from sweptV_no h1)
        have HE := Lib.hid (show EV = zV 4 by rw [hE2, h1]; rfl)
        clear h1 hE2
        go_upto_region 7 with (first | (go_at_call 77; have hc := l02Sweep_any A 1 (.inr (.inr rfl)) V1.heap.size X1 GA.out VA.out OA.out; rw [HC.out] at hc; refine hc.mono ?_; clear hc; rintro e V2 ⟨rfl, hV2⟩) | (refine st_stage 32 rfl ?_; refine wpList_store_mid rfl 32 _ _ rfl _ 0 (Grd zG) rfl rfl (by rw [Grd_size]; exact new_thereG _ V2) (by rw [Grd_size]; exact infoGround) (Grd_one _) ?_; obtain ⟨X2, hX, zX2, gX2, bX2⟩ := stored_box zG 32 V2; rw [hX]; have hX2 : V2.heap.size < X2.heap.size := (by omega); clear hX zX2))
        have kX2 := hV2.trans (bX2.mono hV2.size)
        have P3 := Lib.hid (P2.out.below kX2 (by omega))
        have B2 := Lib.hid (B1.out.trans (kX2.mono (by omega)))
        have tt := P3.out.there
        go_wp2_with (refine st_stage 32 rfl ?_; refine wpList_store_mid rfl 32 _ _ rfl _ 0 (Grd (zG)) rfl rfl (by rw [Grd_size]; with_reducible exact tt) (by rw [Grd_size]; exact infoGround) (Grd_one _) ?_)
        refine bodyPost_ret (results_gfn rfl _ _ _ zG 0 4 rfl rfl rfl P3.out.store.range Tryd.underlying32 rfl infoG195) rfl ⟨by rw [HE.out]; rfl, below_setCells _ (by omega) _ _ _ B2.out⟩
      · have HC := Lib.hid (sweptV_yes h1)
        have HE := Lib.hid (show EV = .tuple #[.agg (Grd (swF (nxC 1) A).1), .float .f32 (maxN m (swF (nxC 1) A).2.2), .int .i64 0] by rw [hE2, h1]; rfl)
        clear h1 hE2
        generalize (swF (nxC 1) A).1 = A2 at HC HE
        generalize (swF (nxC 1) A).2.2 = m2 at HC HE
        go_upto_region 7 with (first | (go_at_call 77; have hc := l02Sweep_any A 1 (.inr (.inr rfl)) V1.heap.size X1 GA.out VA.out OA.out; rw [HC.out] at hc; refine hc.mono ?_; clear hc; rintro e V2 ⟨rfl, hV2⟩) | (refine st_stage 32 rfl ?_; refine wpList_store_mid rfl 32 _ _ rfl _ 0 (Grd A2) rfl rfl (by rw [Grd_size]; exact new_thereG _ V2) (by rw [Grd_size]; exact infoGround) (Grd_one _) ?_; obtain ⟨X2, hX, zX2, gX2, bX2⟩ := stored_box A2 32 V2; rw [hX]; have hX2 : V2.heap.size < X2.heap.size := (by omega); clear hX zX2))
        have kX2 := hV2.trans (bX2.mono hV2.size)
        have P3 := Lib.hid (P2.out.below kX2 (by omega))
        have B2 := Lib.hid (B1.out.trans (kX2.mono (by omega)))
        have rG := gX2.range
        have zx : w.heap.size + 1 < V2.heap.size := by have := hV2.size; omega
        go_upto_region 9 with (fail)
        refine wp_region_plan (ops' := regOf Tryd.f41 9) (.take 0 (.take 1 (.take 2 (.run 3 (.run 4 (.take 5 (.take 6 .fin))))))) (fun Z => Z.rangeAt V2.heap.size 0 (GrdL A2)) (by kernel_rfl) (by kernel_rfl) (by kernel_rfl) (by kernel_rfl) (by kernel_rfl) (Quiet.range ((Quiet.refl X2).drewN 1) rG) ?_
        obtain ⟨Z, hZ⟩ : ∃ Z, X2.drew = Z := ⟨_, rfl⟩
        have qZ : Quiet X2 Z := by rw [← hZ]; exact (Quiet.refl _).drewN 1
        rw [hZ]
        clear hZ
        have PZ := Lib.hid (P3.out.below (qZ.below (w.heap.size + 2)) (by omega))
        have BZ := Lib.hid (B2.out.trans (qZ.below _))
        refine plan_load (some 32) 32 (.tmp 8) V2.heap.size 0 (GrdL A2) _ (by kernel_rfl) (by kernel_rfl) (by kernel_rfl) (by kernel_rfl) (by kernel_rfl) (fun w' hw' => hw') Tryd.underlying32 rfl (by rw [GrdL_length]; exact infoGround) ?_
        refine plan_pure (some 33) (.float .f32 m) (by kernel_rfl) (by kernel_rfl) (by kernel_rfl) (fun _ => by kernel_rfl) ?_
        refine plan_pure (some 34) (.float .f32 m2) (by kernel_rfl) (by kernel_rfl) (by kernel_rfl) (fun _ => by kernel_rfl) ?_
        refine plan_call (some 35) 80 #[.float .f32 m, .float .f32 m2] (by kernel_rfl) (by kernel_rfl) (by kernel_rfl) (by kernel_rfl) ((l02Greater_any m m2 Z).mono ?_)
        rintro e w3 ⟨rfl, h3⟩
        rw [h3]
        clear h3 w3
        refine ⟨_, rfl, Quiet.range qZ rG, plan_do none undef (Z.setCells (w.heap.size + 1) 0 (Grd A2).toList) (by kernel_rfl) (by kernel_rfl) (by kernel_rfl) (.inr ⟨store_op (x := .tmp 2) (y := .tmp 32) (cs := Grd A2) (by kernel_rfl) (by kernel_rfl) (by kernel_rfl) (by rw [Grd_size]; exact PZ.out.there) (by rw [Grd_size]; exact infoGround) (Grd_one _), rfl⟩) (World.rangeAt_setCells_apart (Quiet.range qZ rG) _ _ _ (.inl (by omega))) (plan_pure (some 3) (.float .f32 (maxN m m2)) (by kernel_rfl) (by kernel_rfl) (by kernel_rfl) (fun _ => by kernel_rfl) (plan_pure (some 4) (.int .i64 0) (by kernel_rfl) (by kernel_rfl) (by kernel_rfl) (fun _ => by kernel_rfl) (plan_end (NoPanic.normal ?_))))⟩
        simp only [Act.put, List.setIfInBounds_toArray, List.set_cons_zero, List.set_cons_succ]
        go_wp2
        refine bodyPost_ret (results_gfn rfl _ _ _ A2 (maxN m m2) 0 rfl rfl rfl PZ.out.store.range Tryd.underlying32 rfl infoG195) rfl ⟨by rw [HE.out], below_setCells _ (by omega) _ _ _ BZ.out⟩
end Go.Proofs.YtdhnneidkdoplaaDoor
