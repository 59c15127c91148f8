/- The model's sweep of a colour, or in order. No condition. -/
import Derived.Test.YtaghnminpfgdcaaGreatDoorMs
namespace Go.Proofs.YtaghnminpfgdcaaGreatDoor
open Go.RowKit Go.Shelf
attribute [local go_sem] Oper.semAt_some run_store_float
set_option linter.unusedSimpArgs false
set_option linter.unusedVariables false

/-- Is a cell of the colour? All are, if it is less than 0. -/
def colB (c : Int) (k : Nat) : Bool := decide (c < 0) || decide ((((k % 8 + k / 8) % 2 : Nat) : Int) = c)
/-- The next head in a sweep of a colour. -/
def nxC (c : Int) (H : Gd) (k : Nat) : Option Nat := if colB c k = true then headO H k else num .f32 (H.h k)
theorem nxC_all : nxC (-1) = headO := by
  funext H k
  simp [nxC, colB]
theorem nxC_yes {c : Int} {H : Gd} {k : Nat} (h : colB c k = true) : nxC c H k = headO H k := by simp [nxC, h]
theorem nxC_no {c : Int} {H : Gd} {k : Nat} (h : colB c k = false) : nxC c H k = num .f32 (H.h k) := by simp [nxC, h]
theorem ordV_is (G : Gd) : ∃ (A : Gd) (m : Nat) (n : Int), ordV G = .tuple #[.agg (Grd A), .float .f32 m, .int .i64 n] := by
  unfold ordV
  split
  · exact sweptV_is _ _
  · exact ⟨_, _, _, rfl⟩
theorem col_rem (k : Nat) : ((k : Int).tmod 8 + (k : Int).tdiv 8).tmod 2 = (((k % 8 + k / 8) % 2 : Nat) : Int) := by
  have e1 : (k : Int).tmod 8 = (k : Int) % 8 := Int.tmod_eq_emod_of_nonneg (by omega)
  have e2 : (k : Int).tdiv 8 = (k : Int) / 8 := Int.tdiv_eq_ediv_of_nonneg (by omega)
  rw [e1, e2, Int.tmod_eq_emod_of_nonneg (by omega)]
  omega

set_option maxRecDepth 100000 in
set_option maxHeartbeats 2000000 in
theorem l02Sweep_any (G : Gd) (c : Int) (hc : c = -1 ∨ c = 0 ∨ c = 1) (p : Nat) (w : World) (hp : GBox w p G) (hv : validB G = true) (hG : GdOk G) :
    Calls Tryz.prog 113 #[.pointer (some ⟨p, 0, none⟩), .int .i64 c] w fun e w' => e = .returned (sweptV (nxC c) G) ∧ Below w.heap.size w w' := by
  have hz := (zero_of_info zeroGround).1
  have hpl := hp.lt
  go_enter Tryz.func113, Tryz.ntmps113
  go_upto_region 1 with (fail)
  obtain ⟨V, hV, zV, g1, hB⟩ := gbox1 zG 36 w
  rw [hV]
  clear hV
  have zv : w.heap.size < V.heap.size := by omega
  clear zV
  have gP := hp.below hB hpl
  have G1 := Lib.hid gP
  have G2 := Lib.hid g1
  have HB := Lib.hid hB
  have HG := Lib.hid hG
  have HV := Lib.hid hv
  have r1 := gP.range
  have hnt := new_thereG 36 V
  clear g1 hB hG hv hp gP
  go_upto_region 2 with (first | (refine ld_stage 36 rfl ?_; refine wpList_load_mid rfl 36 _ rfl (p) 0 rfl (GrdL (G)) _ r1 Tryz.underlying36 rfl (by rw [GrdL_length]; exact infoGround) ?_) | (refine st_stage 36 rfl ?_; refine wpList_store_mid rfl 36 _ _ rfl _ 0 (Grd (G)) rfl rfl (by rw [Grd_size]; with_reducible exact hnt) (by rw [Grd_size]; exact infoGround) (Grd_one _) ?_))
  obtain ⟨U, hU, zU, gU, bU⟩ := stored_box G 36 V
  rw [hU]
  have P1 := Lib.hid (G1.out.below bU (by omega))
  have P2 := Lib.hid (G2.out.below bU (by omega))
  have P0 := Lib.hid gU
  have PB := Lib.hid (HB.out.trans (bU.mono (by omega)))
  have PM := Lib.hid (Mst.start (nxC c) G)
  clear r1 hnt hU zU gU bU
  go_wp2
  go_loopw [8] (fun i wr => ∃ (k : Nat) (O : Gd), k ≤ 64 ∧ i = .int .i64 k ∧ Hid (Mst (nxC c) G k O) ∧ Hid (GBox wr V.heap.size O) ∧ Hid (GBox wr p G) ∧ Hid (GBox wr w.heap.size zG) ∧ Hid (Below w.heap.size w wr)) (fun i _ => 64 - (intOf i).toNat)
  case atStart => exact ⟨0, G, by omega, rfl, PM, P0, P1, P2, PB⟩
  case round =>
    clear P0 P1 P2 PB PM
    obtain ⟨k, O, hk, rfl, M, Q0, Q1, Q2, QB⟩ := hrel
    have zr := Q0.out.lt
    by_cases hlt : k < 64
    · have hk2 : (k : Int) < 64 := by omega
      cases hi : isB G k
      · have Hi := Lib.hid hi
        clear hi
        go_wp2_with (go_at_call 81; refine (l01Is_is G k hlt false Hi.out _ _ Q1.out.at' HG.out).mono ?_; rintro e w' ⟨rfl, rfl⟩)
        go_roundw
        case rel => exact ⟨k + 1, O, by omega, by go_num, Lib.hid (M.out.skip Hi.out), Q0, Q1, Q2, QB⟩
        case measure => simp [intOf]; omega
      · have Hi := Lib.hid hi
        clear hi
        by_cases hn : c < 0
        · have HC := Lib.hid (show colB c k = true by simp [colB, hn])
          go_wp2_with (first | (go_at_call 81; refine (l01Is_is G k hlt true Hi.out _ _ Q1.out.at' HG.out).mono ?_; rintro e w' ⟨rfl, rfl⟩) | (go_at_call 133; refine (l02Head_ext O k hlt (M.out.ext HV.out) V.heap.size _ Q0.out.at' (M.out.ok HG.out)).mono ?_; rintro e w1 ⟨r, rfl, hr, hq⟩; have HRr := Lib.hid hr; have S0 := Lib.hid (Q0.out.below (hq.below (V.heap.size + 1)) (by omega)); have S1 := Lib.hid (Q1.out.below (hq.below (V.heap.size + 1)) (by omega)); have S2 := Lib.hid (Q2.out.below (hq.below (V.heap.size + 1)) (by omega)); have SB := Lib.hid (QB.out.trans (hq.below _)); have b0 := S0.out.at_some (130 + k) (by omega); obtain ⟨u, hu⟩ := Option.isSome_iff_exists.1 b0; have f0 := S0.out.free (130 + k) (by omega); clear hr hq b0))
          go_roundw
          case rel => exact ⟨k + 1, putHd O k r, by omega, by go_num, Lib.hid (M.out.put Hi.out (HRr.out.trans (nxC_yes HC.out).symm)), Lib.hid (S0.out.putH hlt), Lib.hid (S1.out.far (by omega)), Lib.hid (S2.out.far (by omega)), Lib.hid (SB.out.setCell (p := ⟨V.heap.size, 130 + k, none⟩) (by show w.heap.size ≤ V.heap.size; omega) _)⟩
          case measure => simp [intOf]; omega
        · have h2 : (0 : Int) ≤ c ∧ c ≤ 1 := by omega
          have hrem := col_rem k
          cases hcb : colB c k
          · have HC := Lib.hid hcb
            have hne : (((k : Int) % 8 + (k : Int) / 8) % 2 == c) = false := by
              have h1 : ¬ (((k % 8 + k / 8) % 2 : Nat) : Int) = c := by
                intro h
                simp [colB, h] at hcb
              have h3 : ¬ ((k : Int) % 8 + (k : Int) / 8) % 2 = c := by omega
              simpa using h3
            have hne2 : ¬ ((k : Int) % 8 + (k : Int) / 8) % 2 = c := by simpa using hne
            go_wp2_with (go_at_call 81; refine (l01Is_is G k hlt true Hi.out _ _ Q1.out.at' HG.out).mono ?_; rintro e w' ⟨rfl, rfl⟩)
            go_roundw
            case rel => exact ⟨k + 1, O, by omega, by go_num, Lib.hid (M.out.keep Hi.out (nxC_no HC.out).symm), Q0, Q1, Q2, QB⟩
            case measure => simp [intOf]; omega
          · have HC := Lib.hid hcb
            have heq : (((k : Int) % 8 + (k : Int) / 8) % 2 == c) = true := by
              have h1 : (((k % 8 + k / 8) % 2 : Nat) : Int) = c := by simpa [colB, hn] using hcb
              have h3 : ((k : Int) % 8 + (k : Int) / 8) % 2 = c := by omega
              simpa using h3
            go_wp2_with (first | (go_at_call 81; refine (l01Is_is G k hlt true Hi.out _ _ Q1.out.at' HG.out).mono ?_; rintro e w' ⟨rfl, rfl⟩) | (go_at_call 133; refine (l02Head_ext O k hlt (M.out.ext HV.out) V.heap.size _ Q0.out.at' (M.out.ok HG.out)).mono ?_; rintro e w1 ⟨r, rfl, hr, hq⟩; have HRr := Lib.hid hr; have S0 := Lib.hid (Q0.out.below (hq.below (V.heap.size + 1)) (by omega)); have S1 := Lib.hid (Q1.out.below (hq.below (V.heap.size + 1)) (by omega)); have S2 := Lib.hid (Q2.out.below (hq.below (V.heap.size + 1)) (by omega)); have SB := Lib.hid (QB.out.trans (hq.below _)); have b0 := S0.out.at_some (130 + k) (by omega); obtain ⟨u, hu⟩ := Option.isSome_iff_exists.1 b0; have f0 := S0.out.free (130 + k) (by omega); clear hr hq b0))
            go_roundw
            case rel => exact ⟨k + 1, putHd O k r, by omega, by go_num, Lib.hid (M.out.put Hi.out (HRr.out.trans (nxC_yes HC.out).symm)), Lib.hid (S0.out.putH hlt), Lib.hid (S1.out.far (by omega)), Lib.hid (S2.out.far (by omega)), Lib.hid (SB.out.setCell (p := ⟨V.heap.size, 130 + k, none⟩) (by show w.heap.size ≤ V.heap.size; omega) _)⟩
            case measure => simp [intOf]; omega
    · obtain rfl : k = 64 := by omega
      have hE := M.out.endV HV.out HG.out
      obtain ⟨A, m, n, hA⟩ := sweptV_is (nxC c) G
      rw [hA] at hE
      have HE := Lib.hid hE
      have HA := Lib.hid hA
      clear hA hE
      go_wp2_with (first | (go_at_call 134; have hc := l02Swept_any G O HG.out (M.out.ok HG.out) HV.out (fun i => M.out.isB i) p V.heap.size wr Q1.out Q0.out; rw [HE.out] at hc; refine hc.mono ?_; clear hc; rintro e w1 ⟨rfl, hq⟩; have SR := Lib.hid (Q2.out.below hq (by omega)); have t1 := SR.out.there; have SB := Lib.hid (QB.out.trans (hq.mono (by omega))); clear hq) | (refine st_stage 36 rfl ?_; refine wpList_store_mid rfl 36 _ _ rfl _ 0 (Grd (A)) rfl rfl (by rw [Grd_size]; with_reducible exact t1) (by rw [Grd_size]; exact infoGround) (Grd_one _) ?_))
      refine bodyPost_ret (results_gfn rfl _ _ _ A m n rfl rfl rfl SR.out.store.range Tryz.underlying36 rfl infoG195) rfl ⟨by rw [HA.out], below_setCells _ (by omega) _ _ _ SB.out⟩

end Go.Proofs.YtaghnminpfgdcaaGreatDoor
