/- GoesOut, ComesIn: the model's and the program's. Condition (the program's): the table of math/bits is laid. -/
import Derived.Test.YtjmekgogaiokpaaDoorBrP
namespace Go.Proofs.YtjmekgogaiokpaaDoor
open Go.RowKit Go.Shelf
attribute [local go_sem] Oper.semAt_some run_store_float
set_option linter.unusedSimpArgs false
set_option linter.unusedVariables false

theorem sol_field0 (p q : Nat) (w : World) : (Instr.field 81 (.agg #[.pointer (some ⟨p, 0, none⟩), .pointer (some ⟨q, 0, none⟩)]) 0).run Tryd.prog w = .ok (.pointer (some ⟨p, 0, none⟩)) w := by kernel_rfl
attribute [local go_sem] sol_field0
theorem brn_valid {B : Brn} (h : brnB B = true) : validB B.G = true := by
  unfold brnB at h
  simp only [Bool.and_eq_true] at h
  exact h.1
/-- What is asked of a brine and the number of a cell. -/
def brnAsk (B : Brn) (c : Int) : Int := if brnB B = true then (if inB B.G c = true then 0 else 2) else 1
theorem brnAsk_in {B : Brn} {c : Int} (h : brnAsk B c = 0) : ∃ k : Nat, c = k ∧ k < 64 ∧ validB B.G = true ∧ isB B.G k = true ∧ brnB B = true := by
  unfold brnAsk at h
  cases hv : brnB B
  · rw [hv] at h; simp at h
  · cases hi : inB B.G c
    · rw [hv, hi] at h; simp at h
    · obtain ⟨k, e, hk, hb⟩ := inB_cast hi
      exact ⟨k, e, hk, brn_valid hv, hb, rfl⟩

set_option maxRecDepth 100000 in
set_option maxHeartbeats 2000000 in
theorem l05Asked_any (B : Brn) (c : Int) (p : Nat) (w : World) (hB : BrnAt w p 0 B) (hG : BrnOk B) :
    Calls Tryd.prog 62 #[.pointer (some ⟨p, 0, none⟩), .int .i64 c] w fun e w' => e = .returned (.int .i64 (brnAsk B c)) ∧ Quiet w w' := by
  have HB := Lib.hid hB
  have HG := Lib.hid hG
  clear hB hG
  cases hv : brnB B
  · have Hv := Lib.hid hv
    rw [show brnAsk B c = 1 by unfold brnAsk; rw [hv]; rfl]
    clear hv
    go_enter Tryd.func62, Tryd.ntmps62
    go_wp2_with (go_at_call 59; have hc := (l05Ok_any B p _ HB.out HG.out); rw [Hv.out] at hc; refine hc.mono ?_; clear hc; rintro e w1 ⟨rfl, hq⟩; have HQ := Lib.hid hq; clear hq)
    go_ret
    exact ⟨rfl, HQ.out⟩
  · cases hi : inB B.G c
    · rw [show brnAsk B c = 2 by unfold brnAsk; rw [hv, hi]; rfl]
      have Hv := Lib.hid hv
      have Hi := Lib.hid hi
      clear hv hi
      go_enter Tryd.func62, Tryd.ntmps62
      go_wp2_with (first | (go_at_call 59; have hc := (l05Ok_any B p _ HB.out HG.out); rw [Hv.out] at hc; refine hc.mono ?_; clear hc; rintro e w1 ⟨rfl, hq⟩; have HQ := Lib.hid hq; clear hq) | (go_at_call 57; have hc := (l01Is_int B.G c p _ (HQ.out.grd HB.out.g) HG.out.g); rw [Hi.out] at hc; refine hc.mono ?_; clear hc; rintro e w2 ⟨rfl, rfl⟩))
      go_ret
      exact ⟨rfl, HQ.out⟩
    · rw [show brnAsk B c = 0 by unfold brnAsk; rw [hv, hi]; rfl]
      have Hv := Lib.hid hv
      have Hi := Lib.hid hi
      clear hv hi
      go_enter Tryd.func62, Tryd.ntmps62
      go_wp2_with (first | (go_at_call 59; have hc := (l05Ok_any B p _ HB.out HG.out); rw [Hv.out] at hc; refine hc.mono ?_; clear hc; rintro e w1 ⟨rfl, hq⟩; have HQ := Lib.hid hq; clear hq) | (go_at_call 57; have hc := (l01Is_int B.G c p _ (HQ.out.grd HB.out.g) HG.out.g); rw [Hi.out] at hc; refine hc.mono ?_; clear hc; rintro e w2 ⟨rfl, rfl⟩))
      go_ret
      exact ⟨rfl, HQ.out⟩

set_option maxRecDepth 100000 in
set_option maxHeartbeats 2000000 in
theorem checkBrine_any (B : Brn) (c : Int) (l1 : -9223372036854775808 ≤ c) (l2 : c ≤ 9223372036854775807) (p : Nat) (w : World) (hB : BrnAt w p 0 B) (hpl : p < w.heap.size) (hG : BrnOk B) (hT : TabAt w) :
    Calls Tryd.prog 65 #[.pointer (some ⟨p, 0, none⟩), .int .i64 c] w fun e w' => e = .returned (.int .i64 (brnAsk B c)) ∧ Below w.heap.size w w' := by
  have r1 := hB.range
  have HB := Lib.hid hB
  have HG := Lib.hid hG
  have TW := Lib.hid hT
  clear hB hG hT
  cases hv : brnB B
  · have Hv := Lib.hid hv
    rw [show brnAsk B c = 1 by unfold brnAsk; rw [hv]; rfl]
    clear hv
    go_enter Tryd.func65, Tryd.ntmps65
    go_wp2_with (first | (refine ld_stage 42 rfl ?_; refine wpList_load_mid rfl 42 _ rfl p 0 rfl (BrnL B) _ r1 Tryd.underlying42 rfl (by rw [BrnL_length]; exact infoBrine) ?_) | (go_at_call 24; have hc := (implValidB_any B w HG.out TW.out); rw [Hv.out] at hc; refine hc.mono ?_; clear hc; rintro e w1 ⟨rfl, h1⟩; have H1 := Lib.hid h1; clear h1))
    go_ret
    exact ⟨rfl, H1.out⟩
  · have HV := Lib.hid (brn_valid hv)
    cases hi : inB B.G c
    · rw [show brnAsk B c = 2 by unfold brnAsk; rw [hv, hi]; rfl]
      have Hv := Lib.hid hv
      have Hi := Lib.hid hi
      clear hv hi
      go_enter Tryd.func65, Tryd.ntmps65
      go_wp2_with (first | (refine ld_stage 42 rfl ?_; refine wpList_load_mid rfl 42 _ rfl p 0 rfl (BrnL B) _ r1 Tryd.underlying42 rfl (by rw [BrnL_length]; exact infoBrine) ?_) | (go_at_call 24; have hc := (implValidB_any B w HG.out TW.out); rw [Hv.out] at hc; refine hc.mono ?_; clear hc; rintro e w1 ⟨rfl, h1⟩; have H1 := Lib.hid h1; clear h1) | (go_at_call 60; refine (dissolved_any p _).mono ?_; rintro e w2 ⟨rfl, h2⟩; have H2 := Lib.hid (H1.out.trans (h2.mono H1.out.size)); clear h2) | (go_at_call 91; have hc := (hasCell_any B.G c l1 l2 p w2 (HB.out.g.below H2.out hpl) (by have := H2.out.size; omega) HG.out.g); rw [hold_in B.G c HV.out, Hi.out] at hc; refine hc.mono ?_; clear hc; rintro e w3 ⟨rfl, h3⟩; have H3 := Lib.hid (H2.out.trans (h3.mono H2.out.size)); clear h3))
      go_ret
      exact ⟨rfl, H3.out⟩
    · rw [show brnAsk B c = 0 by unfold brnAsk; rw [hv, hi]; rfl]
      have Hv := Lib.hid hv
      have Hi := Lib.hid hi
      clear hv hi
      go_enter Tryd.func65, Tryd.ntmps65
      go_wp2_with (first | (refine ld_stage 42 rfl ?_; refine wpList_load_mid rfl 42 _ rfl p 0 rfl (BrnL B) _ r1 Tryd.underlying42 rfl (by rw [BrnL_length]; exact infoBrine) ?_) | (go_at_call 24; have hc := (implValidB_any B w HG.out TW.out); rw [Hv.out] at hc; refine hc.mono ?_; clear hc; rintro e w1 ⟨rfl, h1⟩; have H1 := Lib.hid h1; clear h1) | (go_at_call 60; refine (dissolved_any p _).mono ?_; rintro e w2 ⟨rfl, h2⟩; have H2 := Lib.hid (H1.out.trans (h2.mono H1.out.size)); clear h2) | (go_at_call 91; have hc := (hasCell_any B.G c l1 l2 p w2 (HB.out.g.below H2.out hpl) (by have := H2.out.size; omega) HG.out.g); rw [hold_in B.G c HV.out, Hi.out] at hc; refine hc.mono ?_; clear hc; rintro e w3 ⟨rfl, h3⟩; have H3 := Lib.hid (H2.out.trans (h3.mono H2.out.size)); clear h3))
      go_ret
      exact ⟨rfl, H3.out⟩

/-- What GoesOut answers. -/
def goesOutV (B : Brn) (c : Int) : Value := if brnAsk B c = 0 then finV (outO B.G c.toNat) else FI 0 (brnAsk B c)
theorem goesOutV_is (B : Brn) (c : Int) : ∃ (b : Nat) (n : Int), goesOutV B c = .tuple #[.float .f32 b, .int .i64 n] := by
  unfold goesOutV
  split
  · exact finV_is _
  · exact ⟨_, _, rfl⟩

set_option maxRecDepth 100000 in
set_option maxHeartbeats 2000000 in
theorem specGoesOut_any (B : Brn) (c : Int) (w : World) (hG : BrnOk B) :
    Calls Tryd.prog 25 #[.agg (BrnA B), .int .i64 c] w fun e w' => e = .returned (goesOutV B c) ∧ Below w.heap.size w w' := by
  go_enter Tryd.func25, Tryd.ntmps25
  go_upto_region 1 with (fail)
  obtain ⟨W, hW, hs, b1, hB⟩ := bbox1 B 42 w
  rw [hW]
  clear hW
  have B1 := Lib.hid b1
  have HB := Lib.hid hB
  have HG := Lib.hid hG
  clear b1 hB hs hG
  by_cases ha : brnAsk B c = 0
  · obtain ⟨k, rfl, hk, hv, _, _⟩ := brnAsk_in ha
    have Ha := Lib.hid ha
    have R := Lib.hid (show goesOutV B k = finV (outO B.G k) by simp [goesOutV, ha])
    clear ha
    go_upto_region 5 with (first | (go_at_call 62; have hc := (l05Asked_any B k w.heap.size W B1.out.at' HG.out); rw [Ha.out] at hc; refine hc.mono ?_; clear hc; rintro e w1 ⟨rfl, hq⟩; have HQ := Lib.hid hq; clear hq) | (go_at_call 63; refine (l05Out_any B k hk hv w.heap.size w1 (B1.out.at'.below (HQ.out.below (w.heap.size + 1)) (by omega)) HG.out).mono ?_; rintro e w2 ⟨r, rfl, hr, hq⟩; have HR := Lib.hid hr; have HQ2 := Lib.hid (HQ.out.trans hq); clear hr hq))
    cases hf : finB r
    · have V1 := Lib.hid (R.out.trans (finV_no HR.out hf).symm)
      go_wp2_with (go_at_call 64; refine (l01Finite_is r _ hf w2).mono ?_; rintro e w3 ⟨rfl, hq3⟩)
      go_ret2
      exact ⟨congrArg Ending.returned V1.out.symm, HB.out.trans ((HQ2.out.trans hq3).below _)⟩
    · have V1 := Lib.hid (R.out.trans (finV_yes HR.out hf).symm)
      go_wp2_with (go_at_call 64; refine (l01Finite_is r _ hf w2).mono ?_; rintro e w3 ⟨rfl, hq3⟩)
      go_ret2
      exact ⟨congrArg Ending.returned V1.out.symm, HB.out.trans ((HQ2.out.trans hq3).below _)⟩
  · have hne : (brnAsk B c != 0) = true := by simpa [bne] using ha
    have R := Lib.hid (show goesOutV B c = FI 0 (brnAsk B c) by simp only [goesOutV, ha, if_false])
    clear ha
    go_wp2_with (go_at_call 62; have hc := (l05Asked_any B c w.heap.size W B1.out.at' HG.out); refine hc.mono ?_; clear hc; rintro e w1 ⟨rfl, hq⟩; have HQ := Lib.hid hq; clear hq)
    go_ret2
    exact ⟨congrArg Ending.returned R.out.symm, HB.out.trans (HQ.out.below _)⟩

set_option maxRecDepth 100000 in
set_option maxHeartbeats 2000000 in
theorem implGoesOut_any (B : Brn) (c : Int) (w : World) (hG : BrnOk B) (l1 : -9223372036854775808 ≤ c) (l2 : c ≤ 9223372036854775807) (hT : TabAt w) :
    Calls Tryd.prog 26 #[.agg (BrnA B), .int .i64 c] w fun e w' => e = .returned (goesOutV B c) ∧ Below w.heap.size w w' := by
  go_enter Tryd.func26, Tryd.ntmps26
  go_upto_region 1 with (fail)
  obtain ⟨W, hW, hs, b1, hB, hT1⟩ := bbox_in B 42 w hT
  rw [hW]
  clear hW
  have B1 := Lib.hid b1
  have HB := Lib.hid hB
  have HG := Lib.hid hG
  have TW := Lib.hid hT1
  have hl : w.heap.size < W.heap.size := by omega
  clear b1 hB hs hG hT hT1
  by_cases ha : brnAsk B c = 0
  · obtain ⟨k, rfl, hk, hv, _, _⟩ := brnAsk_in ha
    have Ha := Lib.hid ha
    have R := Lib.hid (show goesOutV B k = finV (outO B.G k) by simp [goesOutV, ha])
    clear ha
    go_wp2_with (first | (go_at_call 65; have hc := (checkBrine_any B k l1 l2 w.heap.size W B1.out.at' hl HG.out TW.out); rw [Ha.out] at hc; refine hc.mono ?_; clear hc; rintro e w1 ⟨rfl, h1⟩; have H1 := Lib.hid h1; clear h1) | (go_at_call 60; refine (dissolved_any w.heap.size _).mono ?_; rintro e w2 ⟨rfl, h2⟩; have H2 := Lib.hid (H1.out.trans (h2.mono H1.out.size)); clear h2) | (go_at_call 67; refine (implOut_any B k hk hv w.heap.size w2 (B1.out.at'.below H2.out hl) (by have := H2.out.size; omega) HG.out).mono ?_; rintro e w3 ⟨r, rfl, hr, h3⟩; have HR := Lib.hid hr; have H3 := Lib.hid (H2.out.trans (h3.mono H2.out.size)); clear hr h3; obtain ⟨x, n, hx⟩ := finV_is (outO B.G k); have HX := Lib.hid hx; clear hx) | (go_at_call 66; have hc := (ifFinite_o r _ HR.out w3); rw [HX.out] at hc; refine hc.mono ?_; clear hc; unfold FI; rintro e w4 ⟨rfl, h4⟩))
    go_ret2
    exact ⟨congrArg Ending.returned (R.out.trans HX.out).symm, HB.out.trans ((H3.out.trans (h4.below _)).mono (by omega))⟩
  · have hne : (brnAsk B c != 0) = true := by simpa [bne] using ha
    have R := Lib.hid (show goesOutV B c = FI 0 (brnAsk B c) by simp only [goesOutV, ha, if_false])
    clear ha
    go_wp2_with (go_at_call 65; have hc := (checkBrine_any B c l1 l2 w.heap.size W B1.out.at' hl HG.out TW.out); refine hc.mono ?_; clear hc; rintro e w1 ⟨rfl, h1⟩; have H1 := Lib.hid h1; clear h1)
    go_ret2
    exact ⟨congrArg Ending.returned R.out.symm, HB.out.trans (H1.out.mono (by omega))⟩

/-- What ComesIn answers. -/
def comesInV (B : Brn) (c : Int) : Value := if brnAsk B c = 0 then finV (inO B c.toNat) else FI 0 (brnAsk B c)
theorem comesInV_is (B : Brn) (c : Int) : ∃ (b : Nat) (n : Int), comesInV B c = .tuple #[.float .f32 b, .int .i64 n] := by
  unfold comesInV
  split
  · exact finV_is _
  · exact ⟨_, _, rfl⟩

set_option maxRecDepth 100000 in
set_option maxHeartbeats 2000000 in
theorem specComesIn_any (B : Brn) (c : Int) (w : World) (hG : BrnOk B) :
    Calls Tryd.prog 28 #[.agg (BrnA B), .int .i64 c] w fun e w' => e = .returned (comesInV B c) ∧ Below w.heap.size w w' := by
  go_enter Tryd.func28, Tryd.ntmps28
  go_upto_region 1 with (fail)
  obtain ⟨W, hW, hs, b1, hB⟩ := bbox1 B 42 w
  rw [hW]
  clear hW
  have B1 := Lib.hid b1
  have HB := Lib.hid hB
  have HG := Lib.hid hG
  clear b1 hB hs hG
  by_cases ha : brnAsk B c = 0
  · obtain ⟨k, rfl, hk, hv, _, _⟩ := brnAsk_in ha
    have Ha := Lib.hid ha
    have R := Lib.hid (show comesInV B k = finV (inO B k) by simp [comesInV, ha])
    clear ha
    go_upto_region 5 with (first | (go_at_call 62; have hc := (l05Asked_any B k w.heap.size W B1.out.at' HG.out); rw [Ha.out] at hc; refine hc.mono ?_; clear hc; rintro e w1 ⟨rfl, hq⟩; have HQ := Lib.hid hq; clear hq) | (go_at_call 68; refine (l05In_any B k hk hv w.heap.size w1 (B1.out.at'.below (HQ.out.below (w.heap.size + 1)) (by omega)) HG.out).mono ?_; rintro e w2 ⟨r, rfl, hr, hq⟩; have HR := Lib.hid hr; have HQ2 := Lib.hid (HQ.out.trans hq); clear hr hq))
    cases hf : finB r
    · have V1 := Lib.hid (R.out.trans (finV_no HR.out hf).symm)
      go_wp2_with (go_at_call 64; refine (l01Finite_is r _ hf w2).mono ?_; rintro e w3 ⟨rfl, hq3⟩)
      go_ret2
      exact ⟨congrArg Ending.returned V1.out.symm, HB.out.trans ((HQ2.out.trans hq3).below _)⟩
    · have V1 := Lib.hid (R.out.trans (finV_yes HR.out hf).symm)
      go_wp2_with (go_at_call 64; refine (l01Finite_is r _ hf w2).mono ?_; rintro e w3 ⟨rfl, hq3⟩)
      go_ret2
      exact ⟨congrArg Ending.returned V1.out.symm, HB.out.trans ((HQ2.out.trans hq3).below _)⟩
  · have hne : (brnAsk B c != 0) = true := by simpa [bne] using ha
    have R := Lib.hid (show comesInV B c = FI 0 (brnAsk B c) by simp only [comesInV, ha, if_false])
    clear ha
    go_wp2_with (go_at_call 62; have hc := (l05Asked_any B c w.heap.size W B1.out.at' HG.out); refine hc.mono ?_; clear hc; rintro e w1 ⟨rfl, hq⟩; have HQ := Lib.hid hq; clear hq)
    go_ret2
    exact ⟨congrArg Ending.returned R.out.symm, HB.out.trans (HQ.out.below _)⟩

set_option maxRecDepth 100000 in
set_option maxHeartbeats 2000000 in
theorem implComesIn_any (B : Brn) (c : Int) (w : World) (hG : BrnOk B) (l1 : -9223372036854775808 ≤ c) (l2 : c ≤ 9223372036854775807) (hT : TabAt w) :
    Calls Tryd.prog 29 #[.agg (BrnA B), .int .i64 c] w fun e w' => e = .returned (comesInV B c) ∧ Below w.heap.size w w' := by
  go_enter Tryd.func29, Tryd.ntmps29
  go_upto_region 1 with (fail)
  obtain ⟨W, hW, hs, b1, hB, hT1⟩ := bbox_in B 42 w hT
  rw [hW]
  clear hW
  have B1 := Lib.hid b1
  have HB := Lib.hid hB
  have HG := Lib.hid hG
  have TW := Lib.hid hT1
  have hl : w.heap.size < W.heap.size := by omega
  clear b1 hB hs hG hT hT1
  by_cases ha : brnAsk B c = 0
  · obtain ⟨k, rfl, hk, hv, _, _⟩ := brnAsk_in ha
    have Ha := Lib.hid ha
    have R := Lib.hid (show comesInV B k = finV (inO B k) by simp [comesInV, ha])
    clear ha
    go_wp2_with (first | (go_at_call 65; have hc := (checkBrine_any B k l1 l2 w.heap.size W B1.out.at' hl HG.out TW.out); rw [Ha.out] at hc; refine hc.mono ?_; clear hc; rintro e w1 ⟨rfl, h1⟩; have H1 := Lib.hid h1; clear h1) | (go_at_call 60; refine (dissolved_any w.heap.size _).mono ?_; rintro e w2 ⟨rfl, h2⟩; have H2 := Lib.hid (H1.out.trans (h2.mono H1.out.size)); clear h2) | (go_at_call 69; refine (implIn_any B k hk hv w.heap.size w2 (B1.out.at'.below H2.out hl) (by have := H2.out.size; omega) HG.out).mono ?_; rintro e w3 ⟨r, rfl, hr, h3⟩; have HR := Lib.hid hr; have H3 := Lib.hid (H2.out.trans (h3.mono H2.out.size)); clear hr h3; obtain ⟨x, n, hx⟩ := finV_is (inO B k); have HX := Lib.hid hx; clear hx) | (go_at_call 66; have hc := (ifFinite_o r _ HR.out w3); rw [HX.out] at hc; refine hc.mono ?_; clear hc; unfold FI; rintro e w4 ⟨rfl, h4⟩))
    go_ret2
    exact ⟨congrArg Ending.returned (R.out.trans HX.out).symm, HB.out.trans ((H3.out.trans (h4.below _)).mono (by omega))⟩
  · have hne : (brnAsk B c != 0) = true := by simpa [bne] using ha
    have R := Lib.hid (show comesInV B c = FI 0 (brnAsk B c) by simp only [comesInV, ha, if_false])
    clear ha
    go_wp2_with (go_at_call 65; have hc := (checkBrine_any B c l1 l2 w.heap.size W B1.out.at' hl HG.out TW.out); refine hc.mono ?_; clear hc; rintro e w1 ⟨rfl, h1⟩; have H1 := Lib.hid h1; clear h1)
    go_ret2
    exact ⟨congrArg Ending.returned R.out.symm, HB.out.trans (H1.out.mono (by omega))⟩
end Go.Proofs.YtjmekgogaiokpaaDoor
