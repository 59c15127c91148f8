/- GreatestChange: the model's and the program's. Condition (the program's): the table of math/bits is laid. -/
import Derived.Test.YtdhnneidkdoplaaDoorChgI
namespace Go.Proofs.YtdhnneidkdoplaaDoor
open Go.RowKit Go.Shelf
attribute [local go_sem] Oper.semAt_some run_store_float
set_option linter.unusedSimpArgs false
set_option linter.unusedVariables false

/-- What GreatestChange says. -/
def gcV (G H : Gd) : Value := if (validB G && validB H) = true then (if sameE G H = true then IFI (wst (chF G H) 0 (cellL G) : Int) (chF G H (wst (chF G H) 0 (cellL G))) 0 else IFI 0 0 4) else IFI 0 0 1
theorem gcV_is (G H : Gd) : ∃ (a : Int) (b : Nat) (n : Int), gcV G H = .tuple #[.int .i64 a, .float .f32 b, .int .i64 n] := by
  unfold gcV
  split
  · split <;> exact ⟨_, _, _, rfl⟩
  · exact ⟨_, _, _, rfl⟩
theorem gc_cases (G H : Gd) : (∃ n, n ≠ 0 ∧ chV G H = .tuple #[.agg (Fld zf), .int .i64 n] ∧ gcV G H = IFI 0 0 n) ∨
    (validB G = true ∧ (∀ i, i < 64 → chF G H i < 4294967296) ∧ chV G H = .tuple #[.agg (Fld (chF G H)), .int .i64 0] ∧ gcV G H = IFI (wst (chF G H) 0 (cellL G) : Int) (chF G H (wst (chF G H) 0 (cellL G))) 0) := by
  cases hv : validB G
  · exact .inl ⟨1, by decide, by simp [chV, hv, FN], by simp [gcV, hv]⟩
  · cases hv2 : validB H
    · exact .inl ⟨1, by decide, by simp [chV, hv2, FN], by simp [gcV, hv2]⟩
    · cases he : sameE G H
      · exact .inl ⟨4, by decide, by simp [chV, hv, hv2, he, FN], by simp [gcV, hv, hv2, he]⟩
      · refine .inr ⟨rfl, fun i hi => ?_, by simp [chV, hv, hv2, he, FN], by simp [gcV, hv, hv2, he]⟩
        unfold chF
        cases hb : isB G i
        · simp
        · obtain ⟨r, h1, _, h3⟩ := plain_sub (valid_heads hv2 hi (by rw [isB_ext he]; exact hb)) (valid_heads hv hi hb)
          simp [h1, h3]
theorem cell0 {G : Gd} (hv : validB G = true) : isB G 0 = true := by
  obtain ⟨v1, v2, v3, v4⟩ := valid_ext hv
  simp only [isB, Bool.and_eq_true, decide_eq_true_eq]
  omega

set_option maxRecDepth 100000 in
set_option maxHeartbeats 2000000 in
theorem specGc_any (G H : Gd) (w : World) (hG : GdOk G) (hH : GdOk H) :
    Calls Tryd.prog 31 #[.agg (Grd G), .agg (Grd H)] w fun e w' => e = .returned (gcV G H) ∧ Below w.heap.size w w' := by
  obtain ⟨EV, hE⟩ : ∃ v, gcV G H = v := ⟨_, rfl⟩
  have hc0 := gc_cases G H
  rw [hE] at hc0 ⊢
  clear hE
  have hz := (zero_of_info zeroField).1
  go_enter Tryd.func31, Tryd.ntmps31
  go_upto_region 1 with (fail)
  obtain ⟨W, hW, hs, g1, g2, hB⟩ := gbox2 G H 32 32 w
  rw [hW]
  clear hW
  have r1 := g1.range
  have r2 := g2.range
  have hl : w.heap.size < W.heap.size := by omega
  have G1 := Lib.hid g1
  have HB := Lib.hid hB
  have HG := Lib.hid hG
  have HH := Lib.hid hH
  clear hs g1 g2 hB hG hH
  rcases hc0 with ⟨n, hn, hV, hE⟩ | ⟨hv, hf, hV, hE⟩
  · have hne : (n != 0) = true := by simpa [bne] using hn
    have HV := Lib.hid hV
    have HE := Lib.hid hE
    clear hV hE
    go_upto_region 2 with (first | (refine ld_stage 32 rfl ?_; refine wpList_load_g (by kernel_rfl) 32 _ rfl (w.heap.size) 0 rfl (GrdL G) _ (by with_reducible exact r1) Tryd.underlying32 rfl (by rw [GrdL_length]; exact infoGround) ?_) | (refine ld_stage 32 rfl ?_; refine wpList_load_g (by kernel_rfl) 32 _ rfl (w.heap.size + 1) 0 rfl (GrdL H) _ (by with_reducible exact r2) Tryd.underlying32 rfl (by rw [GrdL_length]; exact infoGround) ?_) | (go_at_call 28; have hc := specChanges_any G H W HG.out HH.out; rw [HV.out] at hc; refine hc.mono ?_; clear hc; rintro e V0 ⟨rfl, hb⟩; have Hb := Lib.hid hb; clear hb; have hth := new_thereF 30 V0) | (refine st_stage 30 rfl ?_; refine wpList_store_mid rfl 30 _ _ rfl _ 0 (Fld (zf)) rfl rfl (by rw [Fld_size]; with_reducible exact hth) (by rw [Fld_size]; exact infoField) (Fld_one _) ?_))
    obtain ⟨X, hX, zX, gX, bX⟩ := stored_fld zf 30 V0
    rw [hX]
    have B2 := Lib.hid ((HB.out.trans (Hb.out.mono (by omega))).trans (bX.mono (by have := Hb.out.size; omega)))
    clear hX gX bX hth zX r1 r2
    go_wp2
    go_ret3
    exact ⟨congrArg Ending.returned HE.out.symm, B2.out⟩
  · have HV := Lib.hid hV
    have HE := Lib.hid hE
    have Hf := Lib.hid hf
    have HvG := Lib.hid hv
    clear hV hE hf hv
    go_upto_region 2 with (first | (refine ld_stage 32 rfl ?_; refine wpList_load_g (by kernel_rfl) 32 _ rfl (w.heap.size) 0 rfl (GrdL G) _ (by with_reducible exact r1) Tryd.underlying32 rfl (by rw [GrdL_length]; exact infoGround) ?_) | (refine ld_stage 32 rfl ?_; refine wpList_load_g (by kernel_rfl) 32 _ rfl (w.heap.size + 1) 0 rfl (GrdL H) _ (by with_reducible exact r2) Tryd.underlying32 rfl (by rw [GrdL_length]; exact infoGround) ?_) | (go_at_call 28; have hc := specChanges_any G H W HG.out HH.out; rw [HV.out] at hc; refine hc.mono ?_; clear hc; rintro e V0 ⟨rfl, hb⟩; have Hb := Lib.hid hb; clear hb; have hth := new_thereF 30 V0) | (refine st_stage 30 rfl ?_; refine wpList_store_mid rfl 30 _ _ rfl _ 0 (Fld (chF G H)) rfl rfl (by rw [Fld_size]; with_reducible exact hth) (by rw [Fld_size]; exact infoField) (Fld_one _) ?_))
    obtain ⟨X, hX, zX, gX, bX⟩ := stored_fld (chF G H) 30 V0
    rw [hX]
    obtain ⟨f, hff⟩ : ∃ f, chF G H = f := ⟨_, rfl⟩
    have hzu := Hb.out.size
    have P1 := Lib.hid ((G1.out.below Hb.out hl).below bX (by omega))
    have B2 := Lib.hid ((HB.out.trans (Hb.out.mono (by omega))).trans (bX.mono (by omega)))
    obtain ⟨N, hN⟩ : ∃ N, V0.heap.size = N := ⟨_, rfl⟩
    rw [hff] at gX HE Hf ⊢
    rw [hN] at gX ⊢
    have Q1 := Lib.hid gX
    have Hff := Lib.hid hff
    clear hX bX hth zX gX hzu hz r1 r2 hff hN
    go_wp2
    go_loopw [9, 10] (fun q i wr => ∃ k a : Nat, 1 ≤ k ∧ k ≤ 64 ∧ i = .int .i64 k ∧ q = .int .i64 a ∧ a < 64 ∧ Hid (a = wst f 0 (cellTo G k)) ∧ Hid (Quiet X wr)) (fun _ i _ => 64 - (intOf i).toNat)
    case atStart =>
      refine ⟨1, 0, by omega, by omega, rfl, rfl, by omega, ?_, Quiet.refl _⟩
      rw [cellTo_succ, if_pos (cell0 HvG.out)]
      show 0 = if gtS f 0 0 = true then 0 else 0
      split <;> rfl
    case round =>
      obtain ⟨k, a, hk1, hk, rfl, rfl, ha64, hA, hQ⟩ := hrel
      by_cases hlt : k < 64
      · have gp := Lib.hid (P1.out.below (hQ.out.below (w.heap.size + 1)) (by omega))
        have ck := Grd_fld (hQ.out.range Q1.out) k hlt
        have ca := Grd_fld (hQ.out.range Q1.out) a ha64
        cases hi : isB G k
        · have Hi := Lib.hid hi
          have E := Lib.hid (show cellTo G (k + 1) = cellTo G k by rw [cellTo_succ, hi]; rfl)
          clear hi
          go_upto_region 8 with (fail)
          refine wp_region_calm (ops' := regOf Tryd.f31 8) [0, 1, 2, 3, 4, 5, 6, 7, 8, 9, 10, 11, 12] [] .fin (Quiet wr) [(0, One (.int .i64 (k : Int))), (1, One (.bool false)), (2, One (.bool false)), (3, One undef), (4, One undef), (5, One undef), (6, One undef), (7, One undef), (8, One undef), (9, One undef), (10, One undef), (11, One undef), (12, One (.bool false))] (by kernel_rfl) (by kernel_rfl) (by kernel_rfl) (by kernel_rfl) (by kernel_rfl) (by kernel_rfl) (by kernel_rfl) (by kernel_rfl) rfl ((Quiet.refl _).drewN 1) ?_
          refine calm_pure (some 24) (by kernel_rfl) (by kernel_rfl) (by kernel_rfl) (fun _ => by kernel_rfl) ?_
          refine calm_call (some 25) 51 #[.pointer (some ⟨w.heap.size, 0, none⟩), .int .i64 (k : Int)] ⟨_, rfl⟩ (by kernel_rfl) (by kernel_rfl) (by kernel_rfl) (fun _ => by kernel_rfl) (fun w' hw' => ((l01Is_is G k hlt false Hi.out _ w' ((gp.out.below (hw'.below (w.heap.size + 1)) (by omega)).at') HG.out).mono (fun _ _ h => (⟨h.1, h.2.symm⟩ : _ ∧ w' = _))).mono fun e w2 h => ⟨_, h.1, rfl, h.2 ▸ hw'⟩) ?_
          rintro _ rfl
          refine calm_pure (some 26) (by kernel_rfl) (by kernel_rfl) (by kernel_rfl) (fun _ => by kernel_rfl) ?_
          refine calm_skip (some 27) (by kernel_rfl) (by kernel_rfl) (by kernel_rfl) ?_
          refine calm_skip (some 28) (by kernel_rfl) (by kernel_rfl) (by kernel_rfl) ?_
          refine calm_skip (some 29) (by kernel_rfl) (by kernel_rfl) (by kernel_rfl) ?_
          refine calm_skip (some 30) (by kernel_rfl) (by kernel_rfl) (by kernel_rfl) ?_
          refine calm_skip (some 31) (by kernel_rfl) (by kernel_rfl) (by kernel_rfl) ?_
          refine calm_skip (some 32) (by kernel_rfl) (by kernel_rfl) (by kernel_rfl) ?_
          refine calm_skip (some 33) (by kernel_rfl) (by kernel_rfl) (by kernel_rfl) ?_
          refine calm_skip (some 34) (by kernel_rfl) (by kernel_rfl) (by kernel_rfl) ?_
          refine calm_skip (some 35) (by kernel_rfl) (by kernel_rfl) (by kernel_rfl) ?_
          refine calm_pure (some 36) (by kernel_rfl) (by kernel_rfl) (by kernel_rfl) (fun _ => by kernel_rfl) ?_
          refine calm_end fun w2 hw2 => plan_end (Clean.normal ?_)
          simp only [Act.put, List.setIfInBounds_toArray, List.set_cons_zero, List.set_cons_succ]
          go_wp2
          go_roundw
          case rel => exact ⟨k + 1, a, by omega, by omega, by go_num, rfl, ha64, by rw [E.out]; exact hA.out, hQ.out.trans hw2⟩
          case measure => simp [intOf]; omega
        · have Hi := Lib.hid hi
          have E := Lib.hid (show wst f 0 (cellTo G (k + 1)) = if gtS f k a = true then k else a by rw [cellTo_succ, hi, if_pos rfl, wst_snoc, ← hA.out])
          clear hi
          go_upto_region 8 with (fail)
          refine wp_region_calm (ops' := regOf Tryd.f31 8) [0, 1, 2, 3, 4, 5, 6, 7, 8, 9, 10, 11, 12] [] .fin (Quiet wr) [(0, One (.int .i64 (k : Int))), (1, One (.bool true)), (2, One (.bool true)), (3, One (.int .i64 (k : Int))), (4, One (.pointer (some ⟨N, 0 + k, none⟩))), (5, One (.float .f32 (f k))), (6, Numv .f32 (sizeO (num .f32 (f k)))), (7, One (.int .i64 (a : Int))), (8, One (.pointer (some ⟨N, 0 + a, none⟩))), (9, One (.float .f32 (f a))), (10, Numv .f32 (sizeO (num .f32 (f a)))), (11, One (.bool (gtS f k a))), (12, One (.bool (gtS f k a)))] (by kernel_rfl) (by kernel_rfl) (by kernel_rfl) (by kernel_rfl) (by kernel_rfl) (by kernel_rfl) (by kernel_rfl) (by kernel_rfl) rfl ((Quiet.refl _).drewN 1) ?_
          refine calm_pure (some 24) (by kernel_rfl) (by kernel_rfl) (by kernel_rfl) (fun _ => by kernel_rfl) ?_
          refine calm_call (some 25) 51 #[.pointer (some ⟨w.heap.size, 0, none⟩), .int .i64 (k : Int)] ⟨_, rfl⟩ (by kernel_rfl) (by kernel_rfl) (by kernel_rfl) (fun _ => by kernel_rfl) (fun w' hw' => ((l01Is_is G k hlt true Hi.out _ w' ((gp.out.below (hw'.below (w.heap.size + 1)) (by omega)).at') HG.out).mono (fun _ _ h => (⟨h.1, h.2.symm⟩ : _ ∧ w' = _))).mono fun e w2 h => ⟨_, h.1, rfl, h.2 ▸ hw'⟩) ?_
          rintro _ rfl
          refine calm_pure (some 26) (by kernel_rfl) (by kernel_rfl) (by kernel_rfl) (fun _ => by kernel_rfl) ?_
          refine calm_pure (some 27) (by kernel_rfl) (by kernel_rfl) (by kernel_rfl) (fun _ => by kernel_rfl) ?_
          refine calm_pure (some 28) (by kernel_rfl) (by kernel_rfl) (by kernel_rfl) (index_fld (x := .tmp 7) (y := .tmp 27) (o := 0) (by kernel_rfl) (by kernel_rfl) (by kernel_rfl) hlt) ?_
          refine calm_read (some 29) (by kernel_rfl) (by kernel_rfl) (by kernel_rfl) (fun w' hw' => load_cell (ty := 23) (x := .tmp 28) (b := N) (o := 0 + k) (by kernel_rfl) (by kernel_rfl) Tryd.underlying23 rfl (kq ck w' hw')) ?_
          refine calm_call (some 30) 53 #[.float .f32 (f k)] (numv_ne (size_ex (f k))) (by kernel_rfl) (by kernel_rfl) (by kernel_rfl) (fun _ => by kernel_rfl) (fun w' hw' => (l01Size_any (f k) (Hf.out k hlt) w').mono fun e w2 ⟨r, he, hr, hq⟩ => ⟨_, he, ⟨r, rfl, hr⟩, hw'.trans hq⟩) ?_
          rintro _ ⟨r30, rfl, hr30⟩
          refine calm_pure (some 31) (by kernel_rfl) (by kernel_rfl) (by kernel_rfl) (fun _ => by kernel_rfl) ?_
          refine calm_pure (some 32) (by kernel_rfl) (by kernel_rfl) (by kernel_rfl) (index_fld (x := .tmp 7) (y := .tmp 31) (o := 0) (by kernel_rfl) (by kernel_rfl) (by kernel_rfl) ha64) ?_
          refine calm_read (some 33) (by kernel_rfl) (by kernel_rfl) (by kernel_rfl) (fun w' hw' => load_cell (ty := 23) (x := .tmp 32) (b := N) (o := 0 + a) (by kernel_rfl) (by kernel_rfl) Tryd.underlying23 rfl (kq ca w' hw')) ?_
          refine calm_call (some 34) 53 #[.float .f32 (f a)] (numv_ne (size_ex (f a))) (by kernel_rfl) (by kernel_rfl) (by kernel_rfl) (fun _ => by kernel_rfl) (fun w' hw' => (l01Size_any (f a) (Hf.out a ha64) w').mono fun e w2 ⟨r, he, hr, hq⟩ => ⟨_, he, ⟨r, rfl, hr⟩, hw'.trans hq⟩) ?_
          rintro _ ⟨r34, rfl, hr34⟩
          refine calm_pure (some 35) (by kernel_rfl) (by kernel_rfl) (by kernel_rfl) (fun _ => by rw [← gtS_is hr30 hr34]; kernel_rfl) ?_
          refine calm_pure (some 36) (by kernel_rfl) (by kernel_rfl) (by kernel_rfl) (fun _ => by kernel_rfl) ?_
          refine calm_end fun w2 hw2 => plan_end (Clean.normal ?_)
          simp only [Act.put, List.setIfInBounds_toArray, List.set_cons_zero, List.set_cons_succ]
          cases hg : gtS f k a
          · have E3 := Lib.hid (E.out.trans (show _ = a by rw [hg]; rfl))
            go_wp2
            go_roundw
            case rel => exact ⟨k + 1, a, by omega, by omega, by go_num, rfl, ha64, E3.out.symm, hQ.out.trans hw2⟩
            case measure => simp [intOf]; omega
          · have E3 := Lib.hid (E.out.trans (show _ = k by rw [hg]; rfl))
            go_wp2
            go_roundw
            case rel => exact ⟨k + 1, k, by omega, by omega, by go_num, rfl, hlt, E3.out.symm, hQ.out.trans hw2⟩
            case measure => simp [intOf]; omega
      · obtain rfl : k = 64 := by omega
        have ca := Grd_fld (hQ.out.range Q1.out) a ha64
        have R2 := Lib.hid (HE.out.trans (show _ = IFI (a : Int) (f a) 0 by rw [hA.out]; rfl))
        go_upto_region 10 with (fail)
        refine wp_region_calm (ops' := regOf Tryd.f31 10) [0, 1, 2, 3, 4, 5, 6] [] .fin (Quiet wr) [(0, One (.int .i64 (a : Int))), (1, One (.int .i64 (a : Int))), (2, One (.pointer (some ⟨N, 0 + a, none⟩))), (3, One (.float .f32 (f a))), (4, One (.int .i64 (a : Int))), (5, One (.float .f32 (f a))), (6, One (.int .i64 0))] (by kernel_rfl) (by kernel_rfl) (by kernel_rfl) (by kernel_rfl) (by kernel_rfl) (by kernel_rfl) (by kernel_rfl) (by kernel_rfl) rfl ((Quiet.refl _).drewN 1) ?_
        refine calm_pure (some 38) (by kernel_rfl) (by kernel_rfl) (by kernel_rfl) (fun _ => by kernel_rfl) ?_
        refine calm_pure (some 39) (by kernel_rfl) (by kernel_rfl) (by kernel_rfl) (fun _ => by kernel_rfl) ?_
        refine calm_pure (some 40) (by kernel_rfl) (by kernel_rfl) (by kernel_rfl) (index_fld (x := .tmp 7) (y := .tmp 39) (o := 0) (by kernel_rfl) (by kernel_rfl) (by kernel_rfl) ha64) ?_
        refine calm_read (some 41) (by kernel_rfl) (by kernel_rfl) (by kernel_rfl) (fun w' hw' => load_cell (ty := 23) (x := .tmp 40) (b := N) (o := 0 + a) (by kernel_rfl) (by kernel_rfl) Tryd.underlying23 rfl (kq ca w' hw')) ?_
        refine calm_pure (some 4) (by kernel_rfl) (by kernel_rfl) (by kernel_rfl) (fun _ => by kernel_rfl) ?_
        refine calm_pure (some 5) (by kernel_rfl) (by kernel_rfl) (by kernel_rfl) (fun _ => by kernel_rfl) ?_
        refine calm_pure (some 6) (by kernel_rfl) (by kernel_rfl) (by kernel_rfl) (fun _ => by kernel_rfl) ?_
        refine calm_end fun w2 hw2 => plan_end (Clean.normal ?_)
        simp only [Act.put, List.setIfInBounds_toArray, List.set_cons_zero, List.set_cons_succ]
        go_wp2
        go_ret3
        exact ⟨congrArg Ending.returned R2.out.symm, (B2.out.trans (hQ.out.below _)).trans (hw2.below _)⟩

set_option maxRecDepth 100000 in
set_option maxHeartbeats 1000000 in
theorem implGc_bad (G H : Gd) (n : Int) (hn : n ≠ 0) (hV : chV G H = .tuple #[.agg (Fld zf), .int .i64 n]) (w : World) (hG : GdOk G) (hH : GdOk H) (hT : TabAt w) :
    Calls Tryd.prog 32 #[.agg (Grd G), .agg (Grd H)] w fun e w' => e = .returned (IFI 0 0 n) ∧ Below w.heap.size w w' := by
  have hz := (zero_of_info zeroField).1
  have hne : (n != 0) = true := by simpa [bne] using hn
  have HV := Lib.hid hV
  clear hV
  go_enter Tryd.func32, Tryd.ntmps32
  go_upto_region 1 with (fail)
  obtain ⟨W, hW, hs, g1, g2, hB⟩ := gbox2 G H 32 32 w
  rw [hW]
  clear hW
  have r1 := g1.range
  have r2 := g2.range
  have hl : w.heap.size < W.heap.size := by omega
  have HB := Lib.hid hB
  have HG := Lib.hid hG
  have HH := Lib.hid hH
  have HT := Lib.hid (hT.below hB (tab_lt hT))
  clear hs g1 g2 hB hG hH hT
  go_upto_region 2 with (first | (refine ld_stage 32 rfl ?_; refine wpList_load_g (by kernel_rfl) 32 _ rfl (w.heap.size) 0 rfl (GrdL G) _ (by with_reducible exact r1) Tryd.underlying32 rfl (by rw [GrdL_length]; exact infoGround) ?_) | (refine ld_stage 32 rfl ?_; refine wpList_load_g (by kernel_rfl) 32 _ rfl (w.heap.size + 1) 0 rfl (GrdL H) _ (by with_reducible exact r2) Tryd.underlying32 rfl (by rw [GrdL_length]; exact infoGround) ?_) | (go_at_call 29; have hc := implChanges_any G H W HG.out HH.out HT.out; rw [HV.out] at hc; refine hc.mono ?_; clear hc; rintro e V0 ⟨rfl, hb⟩; have Hb := Lib.hid hb; clear hb; have hth := new_thereF 30 V0) | (refine st_stage 30 rfl ?_; refine wpList_store_mid rfl 30 _ _ rfl _ 0 (Fld (zf)) rfl rfl (by rw [Fld_size]; with_reducible exact hth) (by rw [Fld_size]; exact infoField) (Fld_one _) ?_))
  obtain ⟨X, hX, zX, gX, bX⟩ := stored_fld zf 30 V0
  rw [hX]
  have B2 := Lib.hid ((HB.out.trans (Hb.out.mono (by omega))).trans (bX.mono (by have := Hb.out.size; omega)))
  clear hX gX bX hth zX r1 r2
  go_wp2
  go_ret3
  exact ⟨rfl, B2.out⟩

set_option maxRecDepth 100000 in
set_option maxHeartbeats 4000000 in
theorem implGc_good (G H : Gd) (f : Nat → Nat) (hv : validB G = true) (hV : chV G H = .tuple #[.agg (Fld f), .int .i64 0]) (w : World) (hG : GdOk G) (hH : GdOk H) (hT : TabAt w) :
    Calls Tryd.prog 32 #[.agg (Grd G), .agg (Grd H)] w fun e w' => e = .returned (IFI (wst f 0 (cellL G) : Int) (f (wst f 0 (cellL G))) 0) ∧ Below w.heap.size w w' := by
  have hz := (zero_of_info zeroField).1
  have HV := Lib.hid hV
  have Hv := Lib.hid hv
  have glt := tab_lt hT
  clear hV hv
  refine (callsIn_wide (n := 6)).1 (callsIn_of_wp_marks Tryd.func32 rfl trivial ?_ rfl)
  simp only [Tryd.ntmps32, List.size_toArray, List.length_cons, List.length_nil, Nat.reduceAdd, Nat.reduceSub, Array.replicate_succ, Array.replicate_zero, List.push_toArray, List.append_toArray, List.nil_append, List.cons_append]
  refine wpIn_wide.2 ?_
  go_upto_region 1 with (fail)
  obtain ⟨W, hW, hs, g1, g2, hB⟩ := gbox2 G H 32 32 w
  rw [hW]
  clear hW
  have r1 := g1.range
  have r2 := g2.range
  have hl : w.heap.size < W.heap.size := by omega
  have G1 := Lib.hid g1
  have HB := Lib.hid hB
  have HG := Lib.hid hG
  have HH := Lib.hid hH
  have HT := Lib.hid (hT.below hB (tab_lt hT))
  clear hs g1 g2 hB hG hH hT
  go_upto_region 2 with (first | (refine ld_stage 32 rfl ?_; refine wpList_load_g (by kernel_rfl) 32 _ rfl (w.heap.size) 0 rfl (GrdL G) _ (by with_reducible exact r1) Tryd.underlying32 rfl (by rw [GrdL_length]; exact infoGround) ?_) | (refine ld_stage 32 rfl ?_; refine wpList_load_g (by kernel_rfl) 32 _ rfl (w.heap.size + 1) 0 rfl (GrdL H) _ (by with_reducible exact r2) Tryd.underlying32 rfl (by rw [GrdL_length]; exact infoGround) ?_) | (go_at_call 29; have hc := implChanges_any G H W HG.out HH.out HT.out; rw [HV.out] at hc; refine hc.mono ?_; clear hc; rintro e V0 ⟨rfl, hb⟩; have Hb := Lib.hid hb; clear hb; have hth := new_thereF 30 V0) | (refine st_stage 30 rfl ?_; refine wpList_store_mid rfl 30 _ _ rfl _ 0 (Fld (f)) rfl rfl (by rw [Fld_size]; with_reducible exact hth) (by rw [Fld_size]; exact infoField) (Fld_one _) ?_))
  obtain ⟨X, hX, zX, gX, bX⟩ := stored_fld f 30 V0
  rw [hX]
  have hz0 := Hb.out.size
  have bWX : Below W.heap.size W X := Hb.out.trans (bX.mono hz0)
  have X1 := Lib.hid (G1.out.below bWX hl)
  have X2 := Lib.hid gX
  have BX := Lib.hid (HB.out.trans (bWX.mono (by omega)))
  have TX := Lib.hid (HT.out.below bWX (tab_lt HT.out))
  obtain ⟨N, hN⟩ : ∃ N, V0.heap.size = N := ⟨_, rfl⟩
  have hNX : N < X.heap.size := by omega
  have hwN : w.heap.size < N := by omega
  rw [hN] at X2 ⊢
  clear hX gX bX hth zX r1 r2 bWX hN hz0 G1 HB HT Hb hz
  go_upto_region 5 with (fail)
  obtain ⟨M, hM⟩ : ∃ M, X.heap.size = M := ⟨_, rfl⟩
  obtain ⟨Y, hY⟩ : ∃ Y, X.alloc (.cells #[.int .i64 0] 2) = Y := ⟨_, rfl⟩
  have hbY : Below X.heap.size X Y := by rw [← hY]; exact (Below.refl _ _).alloc (Nat.le_refl _) _
  have zY : X.heap.size < Y.heap.size := by rw [← hY]; simp
  have cS : Y.cell? ⟨X.heap.size, 0, none⟩ = some (.int .i64 0) := by rw [← hY]; exact cell_of_row _ _ 0 _ _ _ (heap_alloc_last X _)
  have fS : Y.frozen? ⟨X.heap.size, 0, none⟩ = false := by rw [← hY]; have := (there_row (n := 1) (heap_alloc_last X (.cells #[.int .i64 0] 2)) rfl 0 (by omega)).2; rwa [Nat.zero_add] at this
  rw [hY]
  have Y1 := Lib.hid (X1.out.below hbY (by omega))
  have Y2 := range_kept X2.out hNX _ hbY
  have YT := TX.out.below hbY (tab_lt TX.out)
  have BY := Lib.hid (BX.out.trans (hbY.mono (by omega)))
  rw [hM] at cS fS zY hNX ⊢
  clear hY hbY X1 X2 TX BX hM
  have m64 := cellsN_lt G
  go_wp2_with (first | (go_at_call 70; refine (cells_valid G Hv.out _ _ Y1.out.at').mono ?_; rintro e w' ⟨rfl, rfl⟩) | (go_at_call 58; refine (bitsIn_any (cellsN G) _).mono ?_; rintro e w' ⟨rfl, rfl⟩))
  obtain ⟨U, hU⟩ : ∃ U, Y.alloc (.cells #[.int .u64 (cellsN G)] 25) = U := ⟨_, rfl⟩
  have hbU : Below Y.heap.size Y U := by rw [← hU]; exact (Below.refl _ _).alloc (Nat.le_refl _) _
  have cM : U.cell? ⟨Y.heap.size, 0, none⟩ = some (.int .u64 (cellsN G)) := by rw [← hU]; exact cell_of_row _ _ 0 _ _ _ (heap_alloc_last Y _)
  have zU : Y.heap.size < U.heap.size := by rw [← hU]; simp
  have u2 := range_kept Y2 (by omega) _ hbU
  have u3 := kc cS zY _ hbU
  have u4 : U.frozen? ⟨M, 0, none⟩ = false := (hbU.frozen (p := ⟨M, 0, none⟩) zY).trans fS
  have BU := Lib.hid (BY.out.trans (hbU.mono (by omega)))
  have TU := YT.below hbU (tab_lt YT)
  rw [hU]
  clear hU hbU cS fS Y2 YT BY Y1
  refine (wpIn_wide (n := 6)).1 (wp_bits 21 22 10 Y.heap.size M (cellsN G) m64 rfl cM TU (by omega) (by omega)
    (fun pre W2 => ∃ a : Nat, a < 64 ∧ W2.cell? ⟨M, 0, none⟩ = some (.int .i64 a) ∧ W2.frozen? ⟨M, 0, none⟩ = false ∧ a = wst f 0 pre)
    (fun _ _ _ => False)
    (fun s A B h ⟨a, h0, h1, h2, h3⟩ => ⟨a, h0, h.cell h1, (h.frozen h1).trans h2, h3⟩) (fun _ _ _ _ _ h => h) ⟨0, by omega, u3, u4, rfl⟩ ?assign ?body ?done ?stop)
  case assign =>
    intro l x W K hK
    simp only [List.setIfInBounds_toArray, List.set_cons_zero, List.set_cons_succ] at hK ⊢
    gi_wp2
    exact hK
  case body =>
    rintro l pre x W2 ⟨a, ha64, h1, h2, h3⟩ hB2 _ hx64
    simp only [List.setIfInBounds_toArray, List.set_cons_zero, List.set_cons_succ]
    have cN := Grd_fld (range_kept u2 (by omega) _ hB2) x.1 hx64
    have cA := Grd_fld (range_kept u2 (by omega) _ hB2) a ha64
    gi_upto_region 7 with (fail)
    refine wpIn_region_calm (ops' := regOf Tryd.f32 7) [0, 1, 2, 3, 4, 5, 6, 7, 8] [] .fin (Quiet W2) [(0, One (.int .i64 (x.1 : Int))), (1, One (.pointer (some ⟨N, 0 + x.1, none⟩))), (2, One (.float .f32 (f x.1))), (3, Numv .f32 (sizeO (num .f32 (f x.1)))), (4, One (.int .i64 (a : Int))), (5, One (.pointer (some ⟨N, 0 + a, none⟩))), (6, One (.float .f32 (f a))), (7, Numv .f32 (sizeO (num .f32 (f a)))), (8, One (.bool (gtS f x.1 a)))] (by kernel_rfl) (by kernel_rfl) (by kernel_rfl) (by kernel_rfl) (by kernel_rfl) (by kernel_rfl) (by kernel_rfl) (by kernel_rfl) (by kernel_rfl) rfl ((Quiet.refl _).drewN 1) ?_
    refine calm_pure (some 23) (by kernel_rfl) (by kernel_rfl) (by kernel_rfl) (fun _ => by kernel_rfl) ?_
    refine calm_pure (some 24) (by kernel_rfl) (by kernel_rfl) (by kernel_rfl) (index_fld (x := .tmp 7) (y := .tmp 23) (o := 0) (by kernel_rfl) (by kernel_rfl) (by kernel_rfl) hx64) ?_
    refine calm_read (some 25) (by kernel_rfl) (by kernel_rfl) (by kernel_rfl) (fun w' hw' => load_cell (ty := 23) (x := .tmp 24) (b := N) (o := 0 + x.1) (by kernel_rfl) (by kernel_rfl) Tryd.underlying23 rfl (kq cN w' hw')) ?_
    refine calm_call (some 26) 59 #[.float .f32 (f x.1)] (numv_ne (size_ex (f x.1))) (by kernel_rfl) (by kernel_rfl) (by kernel_rfl) (fun _ => by kernel_rfl) (fun w' hw' => (sizeOf_any (f x.1) w').mono fun e w2 ⟨r, he, hr, hq⟩ => ⟨_, he, ⟨r, rfl, hr⟩, hw'.trans hq⟩) ?_
    rintro _ ⟨r26, rfl, hr26⟩
    refine calm_read (some 27) (by kernel_rfl) (by kernel_rfl) (by kernel_rfl) (fun w' hw' => load_cell (ty := 2) (x := .tmp 9) (b := M) (o := 0) (by kernel_rfl) (by kernel_rfl) Tryd.underlying2 rfl (kq h1 w' hw')) ?_
    refine calm_pure (some 28) (by kernel_rfl) (by kernel_rfl) (by kernel_rfl) (index_fld (x := .tmp 7) (y := .tmp 27) (o := 0) (by kernel_rfl) (by kernel_rfl) (by kernel_rfl) ha64) ?_
    refine calm_read (some 29) (by kernel_rfl) (by kernel_rfl) (by kernel_rfl) (fun w' hw' => load_cell (ty := 23) (x := .tmp 28) (b := N) (o := 0 + a) (by kernel_rfl) (by kernel_rfl) Tryd.underlying23 rfl (kq cA w' hw')) ?_
    refine calm_call (some 30) 59 #[.float .f32 (f a)] (numv_ne (size_ex (f a))) (by kernel_rfl) (by kernel_rfl) (by kernel_rfl) (fun _ => by kernel_rfl) (fun w' hw' => (sizeOf_any (f a) w').mono fun e w2 ⟨r, he, hr, hq⟩ => ⟨_, he, ⟨r, rfl, hr⟩, hw'.trans hq⟩) ?_
    rintro _ ⟨r30, rfl, hr30⟩
    refine calm_pure (some 31) (by kernel_rfl) (by kernel_rfl) (by kernel_rfl) (fun _ => by rw [← gtS_is hr26 hr30]; kernel_rfl) ?_
    refine calm_end fun w' hw' => plan_end (Clean.normal ?_)
    have h1' := kq h1 w' hw'
    have h2' : w'.frozen? ⟨M, 0, none⟩ = false := by obtain ⟨n, rfl⟩ := hw'; exact h2
    have E := wst_snoc f 0 (nos pre) x.1
    rw [← h3] at E
    simp only [Act.put, List.setIfInBounds_toArray, List.set_cons_zero, List.set_cons_succ]
    cases hg : gtS f x.1 a
    · rw [hg] at E
      have E' := Lib.hid E
      have H1 := Lib.hid h1'
      have HB2 := Lib.hid hB2
      clear E h1 h1' h3 hB2 cN cA
      gi_wp2
      exact ⟨KeepsOthers.of_below' (hw'.below _), hw'.below _, ⟨a, ha64, H1.out, h2', by rw [nos_snoc, E'.out]; rfl⟩, HB2.out.trans (hw'.below _)⟩
    · rw [hg] at E
      have E' := Lib.hid E
      have H3 := Lib.hid (World.cell?_setCell_same' w' ⟨M, 0, none⟩ (.int .i64 x.1) (by rw [h1']; rfl))
      have k2 := Lib.hid ((hw'.below M).setCell (p := ⟨M, 0, none⟩) (Nat.le_refl _) (.int .i64 x.1))
      have k1 := Lib.hid ((KeepsOthers.of_below' (hw'.below W2.heap.size)).trans (KeepsOthers.setCell w' ⟨M, 0, none⟩ (.int .i64 x.1)))
      have HB2 := Lib.hid hB2
      clear E h1 h3 hB2 cN cA
      gi_wp2
      exact ⟨k1.out, k2.out, ⟨x.1, hx64, H3.out, by rw [World.frozen?_setCell]; exact h2', by rw [nos_snoc, E'.out]; rfl⟩, HB2.out.trans k2.out⟩
  case done =>
    rintro D W2 hD ⟨a, ha64, h1, h2, h3⟩ hB2 hK
    have cA := Grd_fld (range_kept u2 (by omega) _ hB2) a ha64
    have HR := Lib.hid (show wst f 0 (cellL G) = a by rw [h3, cellL_bits])
    have HB3 := Lib.hid (BU.out.trans (hB2.mono (by omega)))
    have hwD : w.heap.size ≤ D := by omega
    clear h2 h3 u2 u3 u4 cM TU hB2 hD
    go_upto_region 9 with (fail)
    refine wp_region_calm (ops' := regOf Tryd.f32 9) [0, 1, 2, 3, 4, 5, 6] [] .fin (Quiet W2) [(0, One (.int .i64 (a : Int))), (1, One (.int .i64 (a : Int))), (2, One (.pointer (some ⟨N, 0 + a, none⟩))), (3, One (.float .f32 (f a))), (4, One (.int .i64 (a : Int))), (5, One (.float .f32 (f a))), (6, One (.int .i64 0))] (by kernel_rfl) (by kernel_rfl) (by kernel_rfl) (by kernel_rfl) (by kernel_rfl) (by kernel_rfl) (by kernel_rfl) (by kernel_rfl) rfl ((Quiet.refl _).drewN 1) ?_
    refine calm_read (some 33) (by kernel_rfl) (by kernel_rfl) (by kernel_rfl) (fun w' hw' => load_cell (ty := 2) (x := .tmp 9) (b := M) (o := 0) (by kernel_rfl) (by kernel_rfl) Tryd.underlying2 rfl (kq h1 w' hw')) ?_
    refine calm_read (some 34) (by kernel_rfl) (by kernel_rfl) (by kernel_rfl) (fun w' hw' => load_cell (ty := 2) (x := .tmp 9) (b := M) (o := 0) (by kernel_rfl) (by kernel_rfl) Tryd.underlying2 rfl (kq h1 w' hw')) ?_
    refine calm_pure (some 35) (by kernel_rfl) (by kernel_rfl) (by kernel_rfl) (index_fld (x := .tmp 7) (y := .tmp 34) (o := 0) (by kernel_rfl) (by kernel_rfl) (by kernel_rfl) ha64) ?_
    refine calm_read (some 36) (by kernel_rfl) (by kernel_rfl) (by kernel_rfl) (fun w' hw' => load_cell (ty := 23) (x := .tmp 35) (b := N) (o := 0 + a) (by kernel_rfl) (by kernel_rfl) Tryd.underlying23 rfl (kq cA w' hw')) ?_
    refine calm_pure (some 4) (by kernel_rfl) (by kernel_rfl) (by kernel_rfl) (fun _ => by kernel_rfl) ?_
    refine calm_pure (some 5) (by kernel_rfl) (by kernel_rfl) (by kernel_rfl) (fun _ => by kernel_rfl) ?_
    refine calm_pure (some 6) (by kernel_rfl) (by kernel_rfl) (by kernel_rfl) (fun _ => by kernel_rfl) ?_
    refine calm_end fun w' hw' => plan_end (Clean.normal ?_)
    simp only [Act.put, List.setIfInBounds_toArray, List.set_cons_zero, List.set_cons_succ]
    go_wp2
    exact ret_marks (by obtain ⟨n, rfl⟩ := hw'; exact hK) (fun W' _ => by simp [results, Tryd.results32, go_sem] <;> rfl) (fun W' _ hb => ⟨by rw [HR.out]; rfl, (HB3.out.trans (hw'.below _)).trans (hb _ hwD)⟩)
  case stop =>
    rintro D c pre W _ _ h _ _
    exact h.elim

theorem implGc_any (G H : Gd) (w : World) (hG : GdOk G) (hH : GdOk H) (hT : TabAt w) :
    Calls Tryd.prog 32 #[.agg (Grd G), .agg (Grd H)] w fun e w' => e = .returned (gcV G H) ∧ Below w.heap.size w w' := by
  rcases gc_cases G H with ⟨n, hn, hV, hE⟩ | ⟨hv, _, hV, hE⟩
  · rw [hE]
    exact implGc_bad G H n hn hV w hG hH hT
  · rw [hE]
    exact implGc_good G H _ hv hV w hG hH hT
end Go.Proofs.YtdhnneidkdoplaaDoor
