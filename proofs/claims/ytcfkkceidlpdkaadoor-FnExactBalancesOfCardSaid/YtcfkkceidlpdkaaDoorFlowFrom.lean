/- FlowFrom: the model's and the program's. Condition (the program's): the table of math/bits is laid. -/
import Derived.Test.YtcfkkceidlpdkaaDoorFlow
namespace Go.Proofs.YtcfkkceidlpdkaaDoor
open Go.RowKit
set_option linter.unusedSimpArgs false
set_option linter.unusedVariables false

/-- What FlowFrom says. -/
def flowV (G : Gd) (c s : Int) : Value := if sidedN G c s = 0 then finV (flowS G c.toNat s) else FI 0 (sidedN G c s)
theorem finV_is (o : Option Nat) : ∃ (b : Nat) (n : Int), finV o = FI b n := by
  unfold finV
  cases o with
  | none => exact ⟨_, _, rfl⟩
  | some b => dsimp only; split <;> exact ⟨_, _, rfl⟩
theorem flowV_is (G : Gd) (c s : Int) : ∃ (b : Nat) (n : Int), flowV G c s = .tuple #[.float .f32 b, .int .i64 n] := by
  unfold flowV
  split
  · exact finV_is _
  · exact ⟨_, _, rfl⟩
theorem finV_yes {r : Nat} {o : Option Nat} (h : num .f32 r = o) (hf : finB r = true) : FI r 0 = finV o := by rw [← finV_num h, if_pos hf]
theorem finV_no {r : Nat} {o : Option Nat} (h : num .f32 r = o) (hf : finB r = false) : FI 0 4 = finV o := by rw [← finV_num h, hf]; rfl
theorem l01Finite_is (b : Nat) (r : Bool) (h : finB b = r) (w : World) : Calls Tryd.prog 45 #[.float .f32 b] w fun e w' => e = .returned (.bool r) ∧ Quiet w w' := by
  subst h
  exact l01Finite_any b w
theorem ifFinite_o (b : Nat) (o : Option Nat) (h : num .f32 b = o) (w : World) : Calls Tryd.prog 49 #[.float .f32 b] w fun e w' => e = .returned (finV o) ∧ Quiet w w' := by
  rw [← finV_num h]
  exact ifFinite_any b w

set_option maxRecDepth 100000 in
set_option maxHeartbeats 1000000 in
theorem specFlowFrom_any (G : Gd) (c s : Int) (w : World) (hG : GdOk G) :
    Calls Tryd.prog 15 #[.agg (Grd G), .int .i64 c, .int .i64 s] w fun e w' => e = .returned (flowV G c s) ∧ Below w.heap.size w w' := by
  go_enter Tryd.func15, Tryd.ntmps15
  go_upto_region 1 with (fail)
  obtain ⟨W, hW, hs, g1, hB⟩ := gbox1 G 32 w
  rw [hW]
  clear hW
  have G1 := Lib.hid g1
  have HB := Lib.hid hB
  have HG := Lib.hid hG
  clear g1 hB hs hG
  by_cases ha : sidedN G c s = 0
  · obtain ⟨k, rfl, hk, hv, _, hs⟩ := sided_in ha
    have Ha := Lib.hid ha
    have R := Lib.hid (show flowV G k s = finV (flowS G k s) by simp [flowV, ha])
    clear ha
    go_upto_region 5 with (first | (go_at_call 43; have hc := (l01Sided_any G k s _ _ G1.out.at' HG.out); rw [Ha.out] at hc; refine hc.mono ?_; clear hc; rintro e w' ⟨rfl, n, rfl⟩) | (go_at_call 44; refine (l01Flow_any G k hk hv s hs _ _ (Quiet.grd ⟨n, rfl⟩ G1.out.at') HG.out).mono ?_; rintro e w1 ⟨r, rfl, hr, hq⟩; have HR := Lib.hid hr; have HQ := Lib.hid ((Quiet.below ⟨n, rfl⟩ w.heap.size).trans (hq.below _)); clear hr hq))
    cases hf : finB r
    · have V1 := Lib.hid (R.out.trans (finV_no HR.out hf).symm)
      go_wp2_with (go_at_call 45; refine (l01Finite_is r _ hf w1).mono ?_; rintro e w2 ⟨rfl, hq⟩)
      go_ret2
      exact ⟨congrArg Ending.returned V1.out.symm, (HB.out.trans HQ.out).trans (hq.below _)⟩
    · have V1 := Lib.hid (R.out.trans (finV_yes HR.out hf).symm)
      go_wp2_with (go_at_call 45; refine (l01Finite_is r _ hf w1).mono ?_; rintro e w2 ⟨rfl, hq⟩)
      go_ret2
      exact ⟨congrArg Ending.returned V1.out.symm, (HB.out.trans HQ.out).trans (hq.below _)⟩
  · have hne : (sidedN G c s != 0) = true := by simpa [bne] using ha
    have R := Lib.hid (show flowV G c s = FI 0 (sidedN G c s) by simp only [flowV, ha, if_false])
    clear ha
    go_wp2_with (go_at_call 43; refine (l01Sided_any G c s _ _ G1.out.at' HG.out).mono ?_; rintro e w' ⟨rfl, n, rfl⟩)
    go_ret2
    exact ⟨congrArg Ending.returned R.out.symm, HB.out.trans (Quiet.below ⟨n, rfl⟩ _)⟩

set_option maxRecDepth 100000 in
set_option maxHeartbeats 1000000 in
theorem implFlowFrom_any (G : Gd) (c s : Int) (w : World) (hG : GdOk G) (l1 : -9223372036854775808 ≤ c) (l2 : c ≤ 9223372036854775807) (hT : TabAt w) :
    Calls Tryd.prog 17 #[.agg (Grd G), .int .i64 c, .int .i64 s] w fun e w' => e = .returned (flowV G c s) ∧ Below w.heap.size w w' := by
  go_enter Tryd.func17, Tryd.ntmps17
  go_upto_region 1 with (fail)
  obtain ⟨W, hW, hs, g1, hB, hT1⟩ := box_in G 32 w hT
  rw [hW]
  clear hW
  have G1 := Lib.hid g1
  have HB := Lib.hid hB
  have HG := Lib.hid hG
  have HT := Lib.hid hT1
  have hn1 : w.heap.size < W.heap.size := by omega
  clear g1 hB hs hG hT hT1
  by_cases ha : sidedN G c s = 0
  · obtain ⟨k, rfl, hk, hv, _, hs⟩ := sided_in ha
    have Ha := Lib.hid ha
    have R := Lib.hid (show flowV G k s = finV (flowS G k s) by simp [flowV, ha])
    have Hv := Lib.hid hv
    have HS := Lib.hid hs
    cases hn : nbB G k s
    · have N1 := Lib.hid (show IB (if nbB G k s = true then nb k s else 0) (nbB G k s) = IB 0 false by rw [hn]; rfl)
      have V1 := Lib.hid (R.out.trans (show finV (flowS G k s) = FI 0 0 by rw [show flowS G k s = num .f32 0 by simp [flowS, hn]]; exact (finV_yes (r := 0) rfl (by decide +kernel)).symm))
      clear ha hn hv hs
      go_wp2_with (first | (go_at_call 47; have hc := (checkSide_any G k s l1 l2 _ W G1.out.at' hn1 HG.out HT.out); rw [Ha.out] at hc; refine hc.mono ?_; clear hc; rintro e w1 ⟨rfl, hb1⟩) | (go_at_call 48; have hc := (beside_any G k hk s HS.out Hv.out _ w1 (G1.out.at'.below hb1 hn1) (by have := hb1.size; omega) HG.out); rw [N1.out] at hc; refine hc.mono ?_; clear hc; rintro e w2 ⟨rfl, hb2⟩; unfold IB))
      go_ret2
      exact ⟨congrArg Ending.returned V1.out.symm, HB.out.trans ((hb1.trans (hb2.mono hb1.size)).mono (by omega))⟩
    · obtain ⟨hj1, hj⟩ := nbN_is hv hn
      have N1 := Lib.hid (show IB (if nbB G k s = true then nb k s else 0) (nbB G k s) = IB (nbN k s : Int) true by rw [hn, if_pos rfl, hj1])
      have V1 := Lib.hid (R.out.trans (show finV (flowS G k s) = finV (flowO G k (nbN k s)) by simp [flowS, hn]))
      clear ha hn hv hs hj1
      generalize nbN k s = j at hj N1 V1
      go_wp2_with (first | (go_at_call 47; have hc := (checkSide_any G k s l1 l2 _ W G1.out.at' hn1 HG.out HT.out); rw [Ha.out] at hc; refine hc.mono ?_; clear hc; rintro e w1 ⟨rfl, hb1⟩) | (go_at_call 48; have hc := (beside_any G k hk s HS.out Hv.out _ w1 (G1.out.at'.below hb1 hn1) (by have := hb1.size; omega) HG.out); rw [N1.out] at hc; refine hc.mono ?_; clear hc; rintro e w2 ⟨rfl, hb2⟩; unfold IB; have HB2 := Lib.hid (hb1.trans (hb2.mono hb1.size))) | (go_at_call 50; refine (implFlow_any G k j hk hj _ w2 (G1.out.at'.below HB2.out hn1)).mono ?_; rintro e w3 ⟨r, rfl, hr, hq⟩; have HR := Lib.hid hr; have HQ := Lib.hid hq; clear hr hq) | (go_at_call 49; have hc := (ifFinite_o r _ HR.out w3); rw [← V1.out] at hc; obtain ⟨b', n', hV'⟩ := flowV_is G k s; have HV' := Lib.hid hV'; rw [hV'] at hc; clear hV'; refine hc.mono ?_; clear hc; rintro e w4 ⟨rfl, hq4⟩))
      go_ret2
      exact ⟨congrArg Ending.returned HV'.out.symm, (HB.out.trans (HB2.out.mono (by omega))).trans ((HQ.out.trans hq4).below _)⟩
  · have hne : (sidedN G c s != 0) = true := by simpa [bne] using ha
    have R := Lib.hid (show flowV G c s = FI 0 (sidedN G c s) by simp only [flowV, ha, if_false])
    clear ha
    go_wp2_with (go_at_call 47; refine (checkSide_any G c s l1 l2 _ W G1.out.at' hn1 HG.out HT.out).mono ?_; rintro e w1 ⟨rfl, hb1⟩)
    go_ret2
    exact ⟨congrArg Ending.returned R.out.symm, HB.out.trans (hb1.mono (by omega))⟩
end Go.Proofs.YtcfkkceidlpdkaaDoor
