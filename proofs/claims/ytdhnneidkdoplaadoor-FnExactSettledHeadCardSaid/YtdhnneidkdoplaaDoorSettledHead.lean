/- SettledHead: the model's and the program's. Condition (the program's): the table of math/bits is laid. -/
import Derived.Test.YtdhnneidkdoplaaDoorFlows
namespace Go.Proofs.YtdhnneidkdoplaaDoor
open Go.RowKit
set_option linter.unusedSimpArgs false
set_option linter.unusedVariables false

/-- What SettledHead says. -/
def settledHeadV (G : Gd) (c : Int) : Value := if askedN G c = 0 then finV (headO G c.toNat) else FI 0 (askedN G c)
theorem settledHeadV_is (G : Gd) (c : Int) : ∃ (b : Nat) (n : Int), settledHeadV G c = .tuple #[.float .f32 b, .int .i64 n] := by
  unfold settledHeadV
  split
  · exact finV_is _
  · exact ⟨_, _, rfl⟩

set_option maxRecDepth 100000 in
set_option maxHeartbeats 1000000 in
theorem specSettledHead_any (G : Gd) (c : Int) (w : World) (hG : GdOk G) :
    Calls Tryd.prog 21 #[.agg (Grd G), .int .i64 c] w fun e w' => e = .returned (settledHeadV G c) ∧ Below w.heap.size w w' := by
  go_enter Tryd.func21, Tryd.ntmps21
  go_upto_region 1 with (fail)
  obtain ⟨W, hW, hs, g1, hB⟩ := gbox1 G 32 w
  rw [hW]
  clear hW
  have G1 := Lib.hid g1
  have HB := Lib.hid hB
  have HG := Lib.hid hG
  clear g1 hB hs hG
  by_cases ha : askedN G c = 0
  · obtain ⟨k, rfl, hk, hv, _⟩ := asked_in ha
    have Ha := Lib.hid ha
    have R := Lib.hid (show settledHeadV G k = finV (headO G k) by simp [settledHeadV, ha])
    clear ha
    go_upto_region 5 with (first | (go_at_call 60; have hc := (l01Asked_any G k _ _ G1.out.at' HG.out); rw [Ha.out] at hc; refine hc.mono ?_; clear hc; rintro e w' ⟨rfl, n, rfl⟩) | (go_at_call 61; refine (l02Head_any G k hk hv _ _ (Quiet.grd ⟨n, rfl⟩ G1.out.at') HG.out).mono ?_; rintro e w1 ⟨r, rfl, hr, hq⟩; have HR := Lib.hid hr; have HQ := Lib.hid ((Quiet.below ⟨n, rfl⟩ w.heap.size).trans (hq.below _)); clear hr hq))
    cases hf : finB r
    · have V1 := Lib.hid (R.out.trans (finV_no HR.out hf).symm)
      go_wp2_with (go_at_call 62; refine (l01Finite_is r _ hf w1).mono ?_; rintro e w2 ⟨rfl, hq⟩)
      go_ret2
      exact ⟨congrArg Ending.returned V1.out.symm, (HB.out.trans HQ.out).trans (hq.below _)⟩
    · have V1 := Lib.hid (R.out.trans (finV_yes HR.out hf).symm)
      go_wp2_with (go_at_call 62; refine (l01Finite_is r _ hf w1).mono ?_; rintro e w2 ⟨rfl, hq⟩)
      go_ret2
      exact ⟨congrArg Ending.returned V1.out.symm, (HB.out.trans HQ.out).trans (hq.below _)⟩
  · have hne : (askedN G c != 0) = true := by simpa [bne] using ha
    have R := Lib.hid (show settledHeadV G c = FI 0 (askedN G c) by simp only [settledHeadV, ha, if_false])
    clear ha
    go_wp2_with (go_at_call 60; refine (l01Asked_any G c _ _ G1.out.at' HG.out).mono ?_; rintro e w' ⟨rfl, n, rfl⟩)
    go_ret2
    exact ⟨congrArg Ending.returned R.out.symm, HB.out.trans (Quiet.below ⟨n, rfl⟩ _)⟩

set_option maxRecDepth 100000 in
set_option maxHeartbeats 1000000 in
theorem implSettledHead_any (G : Gd) (c : Int) (w : World) (hG : GdOk G) (l1 : -9223372036854775808 ≤ c) (l2 : c ≤ 9223372036854775807) (hT : TabAt w) :
    Calls Tryd.prog 22 #[.agg (Grd G), .int .i64 c] w fun e w' => e = .returned (settledHeadV G c) ∧ Below w.heap.size w w' := by
  go_enter Tryd.func22, Tryd.ntmps22
  go_upto_region 1 with (fail)
  obtain ⟨W, hW, hs, g1, hB, hT1⟩ := box_in G 32 w hT
  rw [hW]
  clear hW
  have G1 := Lib.hid g1
  have HB := Lib.hid hB
  have HG := Lib.hid hG
  have HT := Lib.hid hT1
  have hn1 : w.heap.size < W.heap.size := by omega
  clear g1 hB hs hG hT hT1
  by_cases ha : askedN G c = 0
  · obtain ⟨k, rfl, hk, hv, _⟩ := asked_in ha
    have Ha := Lib.hid ha
    have R := Lib.hid (show settledHeadV G k = finV (headO G k) by simp [settledHeadV, ha])
    have Hv := Lib.hid hv
    clear ha hv
    go_wp2_with (first | (go_at_call 63; have hc := (checkCell_any G k l1 l2 _ W G1.out.at' hn1 HG.out HT.out); rw [Ha.out] at hc; refine hc.mono ?_; clear hc; rintro e w1 ⟨rfl, hb1⟩; have HB1 := Lib.hid hb1; clear hb1) | (go_at_call 65; refine (implHead_any G k hk Hv.out _ w1 (G1.out.at'.below HB1.out hn1) (by have := HB1.out.size; omega) HG.out).mono ?_; rintro e w3 ⟨r, rfl, hr, hq⟩; have HR := Lib.hid hr; have HQ := Lib.hid (HB1.out.trans (hq.mono HB1.out.size)); clear hr hq) | (go_at_call 64; have hc := (ifFinite_o r _ HR.out w3); rw [← R.out] at hc; obtain ⟨b', n', hV'⟩ := settledHeadV_is G k; have HV' := Lib.hid hV'; rw [hV'] at hc; clear hV'; refine hc.mono ?_; clear hc; rintro e w4 ⟨rfl, hq4⟩))
    go_ret2
    exact ⟨congrArg Ending.returned HV'.out.symm, (HB.out.trans (HQ.out.mono (by omega))).trans (hq4.below _)⟩
  · have hne : (askedN G c != 0) = true := by simpa [bne] using ha
    have R := Lib.hid (show settledHeadV G c = FI 0 (askedN G c) by simp only [settledHeadV, ha, if_false])
    clear ha
    go_wp2_with (go_at_call 63; refine (checkCell_any G c l1 l2 _ W G1.out.at' hn1 HG.out HT.out).mono ?_; rintro e w1 ⟨rfl, hb1⟩)
    go_ret2
    exact ⟨congrArg Ending.returned R.out.symm, HB.out.trans (hb1.mono (by omega))⟩
end Go.Proofs.YtdhnneidkdoplaaDoor
