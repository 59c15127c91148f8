/- The law FnExactWellFunction of this commit: for every input the call returns true, and each argument reads afterwards as it read before. Condition: none. -/
import Derived.Test.YtmnimpgeifgeoaaLiftB
import Derived.Test.YtmnimpgeifgeoaaWell
namespace Go.Proofs.Ytmnimpgeifgeoaa
open Go.ChangeShapes Go.WideShapes Go.ChangeAt Go.RowKit
set_option linter.unusedSimpArgs false
set_option linter.unusedVariables false

set_option maxRecDepth 100000 in
set_option maxHeartbeats 1000000 in
theorem fnExactWellFunction_calls (u : Nat) (hu : u < 4294967296) (w : World) : Calls Try.prog 5 #[.float .f32 u] w fun e w' => e = .returned (.bool true) ∧ Below w.heap.size w w' := by
  obtain ⟨o, n, hV⟩ : ∃ o n, wfoV u = (o, n) := ⟨_, _, rfl⟩
  have HV := Lib.hid hV
  clear hV
  go_enter Try.func5, Try.ntmps5
  have t1 : True := trivial
  go_wp2_with (first | (go_at_call 20; have hc := specWellFunction_any u hu w; rw [HV.out] at hc; refine hc.mono ?_; clear hc; rintro e V1 ⟨r1, rfl, hr1, hq1⟩; have R1 := Lib.hid hr1; have Q1 := Lib.hid hq1; clear hr1 hq1; unfold FR) | (go_at_call 21; have hc := implWellFunction_any u hu V1; rw [HV.out] at hc; refine hc.mono ?_; clear hc; rintro e V2 ⟨r2, rfl, hr2, hq2⟩; have R2 := Lib.hid hr2; have Q2 := Lib.hid hq2; clear hr2 hq2; unfold FR) | (have _t := t1; refine wpList_conv rfl _ _ _ rfl Try.underlying22 Try.underlying26 _ rfl ?_; intro x m hx; have X := Lib.hid hx; clear t1 hx) | (refine wpList_conv rfl _ _ _ rfl Try.underlying22 Try.underlying26 _ rfl ?_; intro y m' hy; have Y := Lib.hid hy; clear hy) | (go_at_call 17; refine (sameFloat_yes x y (by rw [X.out, Y.out, R1.out, R2.out]) _).mono ?_; rintro e w' ⟨rfl, k, rfl⟩))
  go_ret
  exact ⟨rfl, (Q1.out.trans (Q2.out.mono Q1.out.size)).trans (Quiet.below ⟨_, rfl⟩ _)⟩

theorem fnExactWellFunction_walk (W : World) (base : Nat) (args : Array Value) (hn : args.size = Try.f5.params.size)
    (hv : ∀ (j : Nat) t v, Try.f5.params[j]? = some t → args[j]? = some v → Value.okWide Try.prog W .any base t v) :
    Calls Try.prog 5 args W fun e W' => e = .returned (.bool true) ∧ Below W.heap.size W W' := by
  rw [Try.params5] at hn hv
  obtain ⟨l⟩ := args
  match l, hn with
  | [v0], _ =>
    obtain ⟨a, rfl, ha⟩ := okWide_f32 (hv 0 _ v0 rfl rfl)
    exact fnExactWellFunction_calls a ha W

set_option maxRecDepth 100000 in
theorem fnExactWellFunction_holds : Rows.FnExactWellFunctionSaid :=
  OpenClaim.holds_of_wide 5 Try.f5 rfl rfl rfl rfl rfl rfl rfl ⟨rfl, rfl, rfl, rfl, rfl⟩ rfl rfl rfl rfl rfl (by kernel_rfl) Try.func5 (by kernel_rfl)
    (of_decide_eq_true (by kernel_rfl)) (by unfold Func.isWrapper; first | (rw [if_pos (by decide +kernel)]; kernel_rfl) | (rw [if_neg (by decide +kernel)]; exact ⟨rfl, rfl⟩))
    (fun os started H enc _ => lift 5 Try.f5 Rows.fnExactWellFunctionSpec Try.func5 rfl rfl
      (fun H ds h => match ds, h with | [d0], _ => rfl)
      (by rw [Try.params5]; exact (by decide +kernel))
      fnExactWellFunction_walk os started H enc (by kernel_rfl)
      (ChangeSpec.witness6 (enc := enc) (C := Try.checked) false ⟨#[], #[.float .f32 0], []⟩ 16 (by kernel_rfl) (by kernel_rfl) (by kernel_rfl) (by kernel_rfl)))
#print axioms fnExactWellFunction_holds
end Go.Proofs.Ytmnimpgeifgeoaa
