/- The law FnExactDropsLogged of this commit: for every input the call returns true, and each argument reads afterwards as it read before. Condition: none. -/
import Derived.Test.YtbiknpfcemfoeaaDrop
import Derived.Test.YtbiknpfcemfoeaaLiftB
namespace Go.Proofs.Ytbiknpfcemfoeaa
open Go Go.ChangeShapes Go.WideShapes Go.ChangeAt Go.RowKit
set_option linter.unusedSimpArgs false
set_option linter.unusedVariables false
set_option maxRecDepth 100000 in
set_option maxHeartbeats 4000000 in
theorem fnExactDropsLogged_calls (a b : Nat → Int) (ha : In16 a) (hb : In16 b) (w : World) : Calls Try.prog 4 #[.agg (Hf a), .agg (Hf b)] w fun e w' => e = .returned (.bool true) ∧ Below w.heap.size w w' := by
  obtain ⟨W, hW, hz, p1, p2, hB⟩ := two_boxes (Hf a) (Hf b) 32 32 w
  have HW := Lib.hid hW
  have P1 := Lib.hid p1
  have P2 := Lib.hid p2
  have HB := Lib.hid hB
  have ZW := Lib.hid hz
  have TS := Lib.hid (fun V => specDrops_any a b ha hb V)
  have TI := Lib.hid (fun V => implDrops_any a b ha hb V)
  obtain ⟨x, y, hx⟩ : ∃ x y : Int, drpV a b = .tuple #[.int .i64 x, .int .i64 y] := ⟨_, _, rfl⟩
  rw [hx] at TS TI
  have BX := Lib.hid (Below.refl W.heap.size W)
  clear hW hz p1 p2 hB ha hb hx
  go_enter Try.func4, Try.ntmps4
  go_upto_region 1 with (fail)
  rw [HW.out]
  go_upto_region 1 with (fail)
  refine wp_region_plan (ops' := regOf Try.f4 1) (.take 0 (.take 2 (.run 1 (.run 3 (.run 4 (.take 5 (.take 6 (.take 7 (.take 8 (.take 9 .fin)))))))))) (Below W.heap.size W) (by kernel_rfl) (by kernel_rfl) (by kernel_rfl) (by kernel_rfl) (by kernel_rfl) BX.out.drew ?_
  refine plan_load (some 10) 32 (.tmp 2) w.heap.size 0 _ _ (by kernel_rfl) (by kernel_rfl) (by kernel_rfl) (by kernel_rfl) (by kernel_rfl) (fun w' hw' => range_kept P1.out (by rw [ZW.out]; omega) _ hw') Try.underlying32 rfl (by rw [Hf_length]; exact infoH) ?_
  refine plan_load (some 12) 32 (.tmp 3) (w.heap.size + 1) 0 _ _ (by kernel_rfl) (by kernel_rfl) (by kernel_rfl) (by kernel_rfl) (by kernel_rfl) (fun w' hw' => range_kept P2.out (by rw [ZW.out]; omega) _ hw') Try.underlying32 rfl (by rw [Hf_length]; exact infoH) ?_
  refine plan_call (some 11) 15 #[.agg (Hf a)] (by kernel_rfl) (by kernel_rfl) (by kernel_rfl) (by kernel_rfl) (Calls.mono (toHf_any a _) ?_)
  rintro _ Va ⟨rfl, ha'⟩
  have BXa := BX.out.drew.trans (ha'.mono BX.out.drew.size)
  refine ⟨_, rfl, BXa, ?_⟩
  refine plan_call (some 13) 15 #[.agg (Hf b)] (by kernel_rfl) (by kernel_rfl) (by kernel_rfl) (by kernel_rfl) (Calls.mono (toHf_any b _) ?_)
  rintro _ Vb ⟨rfl, hb'⟩
  have BXb := BXa.trans (hb'.mono BXa.size)
  refine ⟨_, rfl, BXb, ?_⟩
  refine plan_call (some 14) 14 #[.agg (Hf a), .agg (Hf b)] (by kernel_rfl) (by kernel_rfl) (by kernel_rfl) (by kernel_rfl) (Calls.mono (TS.out _) ?_)
  rintro _ Vc ⟨rfl, hc'⟩
  have BXc := BXb.trans (hc'.mono BXb.size)
  refine ⟨_, rfl, BXc, ?_⟩
  refine plan_pure (some 9) (.tuple #[.int .i64 x, .int .i64 y]) (by kernel_rfl) (by kernel_rfl) (by kernel_rfl) (fun _ => (by kernel_rfl)) ?_
  refine plan_pure (some 15) (.int .i64 x) (by kernel_rfl) (by kernel_rfl) (by kernel_rfl) (fun _ => (by kernel_rfl)) ?_
  refine plan_pure (some 16) (.int .i64 y) (by kernel_rfl) (by kernel_rfl) (by kernel_rfl) (fun _ => (by kernel_rfl)) ?_
  refine plan_pure (some 5) (.int .i64 x) (by kernel_rfl) (by kernel_rfl) (by kernel_rfl) (fun _ => (by kernel_rfl)) ?_
  refine plan_pure (some 6) (.int .i64 y) (by kernel_rfl) (by kernel_rfl) (by kernel_rfl) (fun _ => (by kernel_rfl)) ?_
  refine plan_end (NoPanic.normal ?_)
  simp only [Act.put, List.setIfInBounds_toArray, List.set_cons_zero, List.set_cons_succ]
  have BY := Lib.hid BXc
  clear BXa BXb BXc ha' hb' hc' BX
  have BX := BY
  clear BY
  go_upto_region 2 with (fail)
  refine wp_region_plan (ops' := regOf Try.f4 2) (.take 0 (.take 2 (.run 1 (.run 3 (.run 4 (.take 5 (.take 6 (.take 7 (.take 8 (.take 9 .fin)))))))))) (Below W.heap.size W) (by kernel_rfl) (by kernel_rfl) (by kernel_rfl) (by kernel_rfl) (by kernel_rfl) BX.out.drew ?_
  refine plan_load (some 18) 32 (.tmp 2) w.heap.size 0 _ _ (by kernel_rfl) (by kernel_rfl) (by kernel_rfl) (by kernel_rfl) (by kernel_rfl) (fun w' hw' => range_kept P1.out (by rw [ZW.out]; omega) _ hw') Try.underlying32 rfl (by rw [Hf_length]; exact infoH) ?_
  refine plan_load (some 20) 32 (.tmp 3) (w.heap.size + 1) 0 _ _ (by kernel_rfl) (by kernel_rfl) (by kernel_rfl) (by kernel_rfl) (by kernel_rfl) (fun w' hw' => range_kept P2.out (by rw [ZW.out]; omega) _ hw') Try.underlying32 rfl (by rw [Hf_length]; exact infoH) ?_
  refine plan_call (some 19) 15 #[.agg (Hf a)] (by kernel_rfl) (by kernel_rfl) (by kernel_rfl) (by kernel_rfl) (Calls.mono (toHf_any a _) ?_)
  rintro _ Va ⟨rfl, ha'⟩
  have BXa := BX.out.drew.trans (ha'.mono BX.out.drew.size)
  refine ⟨_, rfl, BXa, ?_⟩
  refine plan_call (some 21) 15 #[.agg (Hf b)] (by kernel_rfl) (by kernel_rfl) (by kernel_rfl) (by kernel_rfl) (Calls.mono (toHf_any b _) ?_)
  rintro _ Vb ⟨rfl, hb'⟩
  have BXb := BXa.trans (hb'.mono BXa.size)
  refine ⟨_, rfl, BXb, ?_⟩
  refine plan_call (some 22) 16 #[.agg (Hf a), .agg (Hf b)] (by kernel_rfl) (by kernel_rfl) (by kernel_rfl) (by kernel_rfl) (Calls.mono (TI.out _) ?_)
  rintro _ Vc ⟨rfl, hc'⟩
  have BXc := BXb.trans (hc'.mono BXb.size)
  refine ⟨_, rfl, BXc, ?_⟩
  refine plan_pure (some 17) (.tuple #[.int .i64 x, .int .i64 y]) (by kernel_rfl) (by kernel_rfl) (by kernel_rfl) (fun _ => (by kernel_rfl)) ?_
  refine plan_pure (some 23) (.int .i64 x) (by kernel_rfl) (by kernel_rfl) (by kernel_rfl) (fun _ => (by kernel_rfl)) ?_
  refine plan_pure (some 24) (.int .i64 y) (by kernel_rfl) (by kernel_rfl) (by kernel_rfl) (fun _ => (by kernel_rfl)) ?_
  refine plan_pure (some 7) (.int .i64 x) (by kernel_rfl) (by kernel_rfl) (by kernel_rfl) (fun _ => (by kernel_rfl)) ?_
  refine plan_pure (some 8) (.int .i64 y) (by kernel_rfl) (by kernel_rfl) (by kernel_rfl) (fun _ => (by kernel_rfl)) ?_
  refine plan_end (NoPanic.normal ?_)
  simp only [Act.put, List.setIfInBounds_toArray, List.set_cons_zero, List.set_cons_succ]
  have BY := Lib.hid BXc
  clear BXa BXb BXc ha' hb' hc' BX
  have BX := BY
  clear BY
  go_wp2
  go_ret
  exact ⟨rfl, HB.out.trans (BX.out.mono (by rw [ZW.out]; omega))⟩

set_option maxRecDepth 100000 in
theorem fnExactDropsLogged_walk (W : World) (base : Nat) (args : Array Value) (hn : args.size = Try.f4.params.size)
    (hv : ∀ (j : Nat) t v, Try.f4.params[j]? = some t → args[j]? = some v → Value.okWide Try.prog W .any base t v) :
    Calls Try.prog 4 args W fun e W' => e = .returned (.bool true) ∧ Below W.heap.size W W' := by
  rw [Try.params4] at hn hv
  obtain ⟨l⟩ := args
  match l, hn with
  | [v0, v1], _ =>
    obtain ⟨f, rfl, hf⟩ := okWide_hf (hv 0 _ v0 rfl rfl)
    obtain ⟨g, rfl, hg⟩ := okWide_hf (hv 1 _ v1 rfl rfl)
    exact fnExactDropsLogged_calls f g hf hg W

set_option maxRecDepth 100000 in
theorem fnExactDropsLogged_holds : Rows.FnExactDropsLoggedSaid :=
  OpenClaim.holds_of_wide 4 Try.f4 rfl rfl rfl rfl rfl rfl rfl ⟨rfl, rfl, rfl, rfl, rfl⟩ rfl rfl rfl rfl rfl (by kernel_rfl) Try.func4 (by kernel_rfl)
    (of_decide_eq_true (by kernel_rfl)) (by unfold Func.isWrapper; first | (rw [if_pos (by decide +kernel)]; kernel_rfl) | (rw [if_neg (by decide +kernel)]; exact ⟨rfl, rfl⟩))
    (fun os started H enc _ => lift 4 Try.f4 Rows.fnExactDropsLoggedSpec Try.func4 rfl rfl
      (fun H ds h => match ds, h with | [d0, d1], _ => rfl)
      (by rw [Try.params4]; exact (by decide +kernel))
      fnExactDropsLogged_walk os started H enc (by kernel_rfl)
      (ChangeSpec.witness6 (enc := enc) (C := Try.checked) false ⟨#[], #[.agg #[.int .i16 0, .int .i16 0, .int .i16 0, .int .i16 0, .int .i16 0, .int .i16 0, .int .i16 0, .int .i16 0, .int .i16 0, .int .i16 0, .int .i16 0, .int .i16 0, .int .i16 0, .int .i16 0, .int .i16 0, .int .i16 0, .int .i16 0, .int .i16 0, .int .i16 0, .int .i16 0, .int .i16 0, .int .i16 0, .int .i16 0, .int .i16 0, .int .i16 0, .int .i16 0, .int .i16 0, .int .i16 0, .int .i16 0, .int .i16 0, .int .i16 0, .int .i16 0, .int .i16 0, .int .i16 0, .int .i16 0, .int .i16 0, .int .i16 0, .int .i16 0, .int .i16 0, .int .i16 0, .int .i16 0, .int .i16 0, .int .i16 0, .int .i16 0, .int .i16 0, .int .i16 0, .int .i16 0, .int .i16 0, .int .i16 0, .int .i16 0, .int .i16 0, .int .i16 0, .int .i16 0, .int .i16 0, .int .i16 0, .int .i16 0, .int .i16 0, .int .i16 0, .int .i16 0, .int .i16 0, .int .i16 0, .int .i16 0, .int .i16 0, .int .i16 0], .agg #[.int .i16 0, .int .i16 0, .int .i16 0, .int .i16 0, .int .i16 0, .int .i16 0, .int .i16 0, .int .i16 0, .int .i16 0, .int .i16 0, .int .i16 0, .int .i16 0, .int .i16 0, .int .i16 0, .int .i16 0, .int .i16 0, .int .i16 0, .int .i16 0, .int .i16 0, .int .i16 0, .int .i16 0, .int .i16 0, .int .i16 0, .int .i16 0, .int .i16 0, .int .i16 0, .int .i16 0, .int .i16 0, .int .i16 0, .int .i16 0, .int .i16 0, .int .i16 0, .int .i16 0, .int .i16 0, .int .i16 0, .int .i16 0, .int .i16 0, .int .i16 0, .int .i16 0, .int .i16 0, .int .i16 0, .int .i16 0, .int .i16 0, .int .i16 0, .int .i16 0, .int .i16 0, .int .i16 0, .int .i16 0, .int .i16 0, .int .i16 0, .int .i16 0, .int .i16 0, .int .i16 0, .int .i16 0, .int .i16 0, .int .i16 0, .int .i16 0, .int .i16 0, .int .i16 0, .int .i16 0, .int .i16 0, .int .i16 0, .int .i16 0, .int .i16 0]], []⟩ 16 (by kernel_rfl) (by kernel_rfl) (by kernel_rfl) (by kernel_rfl)))
#print axioms fnExactDropsLogged_holds
end Go.Proofs.Ytbiknpfcemfoeaa
