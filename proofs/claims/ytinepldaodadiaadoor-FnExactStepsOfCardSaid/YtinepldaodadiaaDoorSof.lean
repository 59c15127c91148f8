/- Several steps of heads, one behind the other: the model's side. No condition. -/
import Derived.Test.YtinepldaodadiaaDoorStp
import Derived.Test.YtinepldaodadiaaDoorStu
namespace Go.Proofs.YtinepldaodadiaaDoor
open Go Go.RowKit Go.Shelf
attribute [local go_sem] Oper.semAt_some run_store_float
set_option linter.unusedSimpArgs false
set_option linter.unusedVariables false

/-- m steps; the first that cannot be made ends it. -/
def sofN (p : Nat) : Nat → Gd → Gd × Int
  | 0, G => (G, 0)
  | m + 1, G => if (stpR G p).2 = 0 then sofN p m (stpR G p).1 else stpR G p
theorem sofN_on {p m : Nat} {G : Gd} (h : (stpR G p).2 = 0) : sofN p (m + 1) G = sofN p m (stpR G p).1 := by simp [sofN, h]
theorem sofN_no {p m : Nat} {G : Gd} (h : (stpR G p).2 ≠ 0) : sofN p (m + 1) G = (zG, 4) := by
  have h4 := stpR_code4 h
  simp [sofN, h4]
def sofV (G : Gd) (p : Nat) (y : Int) : Gd × Int := if askT G p = 0 then (if hoursB y = true then sofN p y.toNat G else (zG, 2)) else (zG, 1)
set_option maxRecDepth 100000 in
set_option maxHeartbeats 2000000 in
theorem specSof_any (G : Gd) (part : Nat) (y : Int) (w : World) (hG : GdOk G) (hy : -9223372036854775808 ≤ y ∧ y ≤ 9223372036854775807) :
    Calls Tryd.prog 4 #[.agg (Grd G), .float .f32 part, .int .i64 y] w fun e w' => e = .returned (GN (sofV G part y).1 (sofV G part y).2) ∧ Below w.heap.size w w' := by
  have hz := (zero_of_info zeroGround).1
  go_enter Tryd.func4, Tryd.ntmps4
  go_upto_region 1 with (fail)
  obtain ⟨W, hW, zW, g1, g2, hB⟩ := gbox2 G zG 30 30 w
  rw [hW]
  clear hW
  have G1 := Lib.hid g1
  have G2 := Lib.hid g2
  have HB := Lib.hid hB
  have HG := Lib.hid hG
  clear g1 g2 hB hG
  rcases askT_or G part with ha | ha
  · have Ha := Lib.hid ha
    obtain ⟨hv, hpp⟩ := askT_yes ha
    cases hyy : hoursB y
    · have Hy := Lib.hid hyy
      have HE := Lib.hid (show sofV G part y = (zG, 2) by simp [sofV, ha, hyy])
      clear ha hv hpp hyy
      have t1 := trivial
      have h00 : True := trivial
      go_wp2_with (first | (go_at_call 8; have hc := l06Asked_any G part w.heap.size W G1.out HG.out; rw [Ha.out] at hc; refine hc.mono ?_; clear hc; rintro e V ⟨rfl, hq⟩; have P1 := Lib.hid (G1.out.below (hq.below (w.heap.size + 1)) (by omega)); have P2 := Lib.hid (G2.out.below (hq.below (w.heap.size + 1 + 1)) (by omega)); have B1 := Lib.hid (HB.out.trans (hq.below _)); clear hq) | (go_at_call 9; refine (l06Steps_is y false Hy.out _).mono ?_; rintro e w' ⟨rfl, rfl⟩))
      have S2 := P2
      have t2 := P2.out.there
      go_loopw [8, 9] (fun c i wr => c = .int .i64 2 ∧ i = .int .i64 0 ∧ Hid (wr = V)) (fun c i wr => 0)
      case atStart => exact ⟨rfl, rfl, Lib.hid rfl⟩
      case round =>
        obtain ⟨rfl, rfl, hwr⟩ := hrel
        obtain rfl := hwr.out
        by_cases hy0 : 0 < y
        · go_wp2_with (first | (refine st_stage 30 rfl ?_; refine wpList_store_mid rfl 30 _ _ rfl _ 0 (Grd (zG)) rfl rfl (by rw [Grd_size]; with_reducible exact t2) (by rw [Grd_size]; exact infoGround) (Grd_one _) ?_))
          refine bodyPost_ret (ret_GN rfl rfl rfl S2.out.store.range) rfl ⟨by rw [HE.out], below_setCells _ (by omega) _ _ _ B1.out⟩
        · go_wp2_with (first | (refine st_stage 30 rfl ?_; refine wpList_store_mid rfl 30 _ _ rfl _ 0 (Grd (zG)) rfl rfl (by rw [Grd_size]; with_reducible exact t2) (by rw [Grd_size]; exact infoGround) (Grd_one _) ?_))
          refine bodyPost_ret (ret_GN rfl rfl rfl S2.out.store.range) rfl ⟨by rw [HE.out], below_setCells _ (by omega) _ _ _ B1.out⟩
    · have Hy := Lib.hid hyy
      obtain ⟨m, rfl⟩ : ∃ m : Nat, y = (m : Int) := ⟨y.toNat, by simp [hoursB] at hyy; omega⟩
      have hm : m ≤ 400 := by simp [hoursB] at hyy; omega
      obtain ⟨R, hR⟩ : ∃ R, sofN part m G = R := ⟨_, rfl⟩
      have HE := Lib.hid (show sofV G part (m : Int) = R by rw [← hR]; simp [sofV, ha, hyy])
      have HR := Lib.hid hR
      have HVV := Lib.hid (And.intro hv HG.out)
      clear ha hv hpp hyy hR hy
      go_wp2_with (first | (go_at_call 8; have hc := l06Asked_any G part w.heap.size W G1.out HG.out; rw [Ha.out] at hc; refine hc.mono ?_; clear hc; rintro e V ⟨rfl, hq⟩; have P1 := Lib.hid (G1.out.below (hq.below (w.heap.size + 1)) (by omega)); have P2 := Lib.hid (G2.out.below (hq.below (w.heap.size + 1 + 1)) (by omega)); have B1 := Lib.hid (HB.out.trans (hq.below _)); clear hq) | (go_at_call 9; refine (l06Steps_is (m : Int) true Hy.out _).mono ?_; rintro e w' ⟨rfl, rfl⟩))
      go_loopw [8, 9] (fun c i wr => ∃ (k : Nat) (cd : Int) (K : Gd), c = .int .i64 cd ∧ i = .int .i64 k ∧ k ≤ m ∧ Hid ((cd = 0 ∧ sofN part (m - k) K = R ∧ validB K = true ∧ GdOk K) ∨ (cd ≠ 0 ∧ R = (zG, cd))) ∧ Hid (GBox wr w.heap.size K) ∧ Hid (GBox wr (w.heap.size + 1) zG) ∧ Hid (Below w.heap.size w wr)) (fun c i wr => m - (intOf i).toNat)
      case atStart => exact ⟨0, 0, G, rfl, rfl, by omega, Lib.hid (.inl ⟨rfl, HR.out, HVV.out.1, HVV.out.2⟩), P1, P2, B1⟩
      case round =>
        clear P1 P2 B1
        obtain ⟨k, cd, K, rfl, rfl, hk, hD, Q1, Q2, QB⟩ := hrel
        have zr := Q2.out.lt
        rcases hD.out with ⟨rfl, hU, hv, hG⟩ | ⟨hne, hU⟩
        · have HV := Lib.hid (And.intro hv hG)
          clear hD hv hG
          by_cases hlt : k < m
          · have hki : (k : Int) < m := by omega
            obtain ⟨j, hj⟩ : ∃ j, m - k = j + 1 := ⟨m - k - 1, by omega⟩
            rw [hj] at hU
            by_cases hs : (stpR K part).2 = 0
            · have HU := Lib.hid ((sofN_on hs).symm.trans hU)
              have HVA := Lib.hid (stpR_good (p := part) HV.out.1 HV.out.2 hs)
              obtain ⟨A, hA⟩ : ∃ A, (stpR K part).1 = A := ⟨_, rfl⟩
              have HN := Lib.hid (show GN (stpR K part).1 (stpR K part).2 = .tuple #[.agg (Grd A), .int .i64 0] by rw [hA, hs]; rfl)
              rw [hA] at HU HVA
              clear hU hs hA
              go_wp2_with (first | (go_at_call 10; have hc := l06Stepped_any K part w.heap.size wr Q1.out HV.out.1 HV.out.2; rw [HN.out] at hc; refine hc.mono ?_; clear hc; rintro e V2 ⟨rfl, hb⟩; have T1 := Lib.hid (Q1.out.below hb Q1.out.lt); have T2 := Lib.hid (Q2.out.below hb Q2.out.lt); have TB := Lib.hid (QB.out.trans (hb.mono QB.out.size)); have tt := T1.out.there; clear hb) | (refine st_stage 30 rfl ?_; refine wpList_store_mid rfl 30 _ _ rfl _ 0 (Grd (A)) rfl rfl (by rw [Grd_size]; with_reducible exact tt) (by rw [Grd_size]; exact infoGround) (Grd_one _) ?_))
              go_roundw
              case rel => exact ⟨k + 1, 0, A, rfl, by go_num, by omega, Lib.hid (.inl ⟨rfl, by rw [show m - (k + 1) = j by omega]; exact HU.out, HVA.out⟩), Lib.hid T1.out.store, Lib.hid (T2.out.fars (by omega)), Lib.hid (below_setCells _ (Nat.le_refl _) _ _ _ TB.out)⟩
              case measure => simp [intOf]; omega
            · have h4 := stpR_code4 hs
              have HN := Lib.hid (show GN (stpR K part).1 (stpR K part).2 = .tuple #[.agg (Grd zG), .int .i64 4] by rw [h4]; rfl)
              have HU := Lib.hid (show (zG, 4) = R by rw [← hU, sofN_no hs])
              clear hU hs h4
              go_wp2_with (first | (go_at_call 10; have hc := l06Stepped_any K part w.heap.size wr Q1.out HV.out.1 HV.out.2; rw [HN.out] at hc; refine hc.mono ?_; clear hc; rintro e V2 ⟨rfl, hb⟩; have T1 := Lib.hid (Q1.out.below hb Q1.out.lt); have T2 := Lib.hid (Q2.out.below hb Q2.out.lt); have TB := Lib.hid (QB.out.trans (hb.mono QB.out.size)); have tt := T1.out.there; clear hb) | (refine st_stage 30 rfl ?_; refine wpList_store_mid rfl 30 _ _ rfl _ 0 (Grd (zG)) rfl rfl (by rw [Grd_size]; with_reducible exact tt) (by rw [Grd_size]; exact infoGround) (Grd_one _) ?_))
              go_roundw
              case rel => exact ⟨k + 1, 4, zG, rfl, by go_num, by omega, Lib.hid (.inr ⟨by decide, HU.out.symm⟩), Lib.hid T1.out.store, Lib.hid (T2.out.fars (by omega)), Lib.hid (below_setCells _ (Nat.le_refl _) _ _ _ TB.out)⟩
              case measure => simp [intOf]; omega
          · obtain rfl : k = m := by omega
            have HU := Lib.hid (show (K, 0) = R by rw [← hU, Nat.sub_self]; rfl)
            have r1 := Q1.out.range
            have t2 := Q2.out.there
            clear hU
            go_wp2_with (first | (refine ld_stage 30 rfl ?_; refine wpList_load_mid rfl 30 _ rfl (w.heap.size) 0 rfl (GrdL (K)) _ r1 Tryd.underlying30 rfl (by rw [GrdL_length]; exact infoGround) ?_) | (refine st_stage 30 rfl ?_; refine wpList_store_mid rfl 30 _ _ rfl _ 0 (Grd (K)) rfl rfl (by rw [Grd_size]; with_reducible exact t2) (by rw [Grd_size]; exact infoGround) (Grd_one _) ?_))
            refine bodyPost_ret (ret_GN rfl rfl rfl Q2.out.store.range) rfl ⟨by rw [HE.out, ← HU.out], below_setCells _ (by omega) _ _ _ QB.out⟩
        · have hne2 : (cd == 0) = false := by simpa using hne
          have t2 := Q2.out.there
          have HU := Lib.hid hU
          clear hD hU
          by_cases hlt : k < m
          · have hki : (k : Int) < m := by omega
            go_wp2_with (first | (refine st_stage 30 rfl ?_; refine wpList_store_mid rfl 30 _ _ rfl _ 0 (Grd (zG)) rfl rfl (by rw [Grd_size]; with_reducible exact t2) (by rw [Grd_size]; exact infoGround) (Grd_one _) ?_))
            refine bodyPost_ret (ret_GN rfl rfl rfl Q2.out.store.range) rfl ⟨by rw [HE.out, HU.out], below_setCells _ (by omega) _ _ _ QB.out⟩
          · obtain rfl : k = m := by omega
            go_wp2_with (first | (refine st_stage 30 rfl ?_; refine wpList_store_mid rfl 30 _ _ rfl _ 0 (Grd (zG)) rfl rfl (by rw [Grd_size]; with_reducible exact t2) (by rw [Grd_size]; exact infoGround) (Grd_one _) ?_))
            refine bodyPost_ret (ret_GN rfl rfl rfl Q2.out.store.range) rfl ⟨by rw [HE.out, HU.out], below_setCells _ (by omega) _ _ _ QB.out⟩
  · have Ha := Lib.hid ha
    have HE := Lib.hid (show sofV G part y = (zG, 1) by simp [sofV, ha])
    clear ha
    have t1 := trivial
    have h00 : True := trivial
    go_wp2_with (first | (go_at_call 8; have hc := l06Asked_any G part w.heap.size W G1.out HG.out; rw [Ha.out] at hc; refine hc.mono ?_; clear hc; rintro e V ⟨rfl, hq⟩; have P1 := Lib.hid (G1.out.below (hq.below (w.heap.size + 1)) (by omega)); have P2 := Lib.hid (G2.out.below (hq.below (w.heap.size + 1 + 1)) (by omega)); have B1 := Lib.hid (HB.out.trans (hq.below _)); clear hq))
    have S2 := P2
    have t2 := P2.out.there
    go_loopw [8, 9] (fun c i wr => c = .int .i64 1 ∧ i = .int .i64 0 ∧ Hid (wr = V)) (fun c i wr => 0)
    case atStart => exact ⟨rfl, rfl, Lib.hid rfl⟩
    case round =>
      obtain ⟨rfl, rfl, hwr⟩ := hrel
      obtain rfl := hwr.out
      by_cases hy0 : 0 < y
      · go_wp2_with (first | (refine st_stage 30 rfl ?_; refine wpList_store_mid rfl 30 _ _ rfl _ 0 (Grd (zG)) rfl rfl (by rw [Grd_size]; with_reducible exact t2) (by rw [Grd_size]; exact infoGround) (Grd_one _) ?_))
        refine bodyPost_ret (ret_GN rfl rfl rfl S2.out.store.range) rfl ⟨by rw [HE.out], below_setCells _ (by omega) _ _ _ B1.out⟩
      · go_wp2_with (first | (refine st_stage 30 rfl ?_; refine wpList_store_mid rfl 30 _ _ rfl _ 0 (Grd (zG)) rfl rfl (by rw [Grd_size]; with_reducible exact t2) (by rw [Grd_size]; exact infoGround) (Grd_one _) ?_))
        refine bodyPost_ret (ret_GN rfl rfl rfl S2.out.store.range) rfl ⟨by rw [HE.out], below_setCells _ (by omega) _ _ _ B1.out⟩
end Go.Proofs.YtinepldaodadiaaDoor
