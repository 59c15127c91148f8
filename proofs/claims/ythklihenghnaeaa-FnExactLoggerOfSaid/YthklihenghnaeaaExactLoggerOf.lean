/- The law FnExactLoggerOf of this commit: for every input the call returns true, and each argument reads afterwards as it read before. Condition: none. -/
import Derived.Test.YthklihenghnaeaaLiftB
import Derived.Test.YthklihenghnaeaaLogI
namespace Go.Proofs.Ythklihenghnaeaa
open Go Go.ChangeShapes Go.WideShapes Go.ChangeAt Go.RowKit
set_option linter.unusedSimpArgs false
set_option linter.unusedVariables false

set_option maxRecDepth 100000 in
set_option maxHeartbeats 1000000 in
theorem fnExactLoggerOf_calls (l : Nat) (w : World) : Calls Try.prog 10 #[.float .f32 l] w fun e w' => e = .returned (.bool true) ∧ Below w.heap.size w w' := by
  obtain ⟨n, hl⟩ := lgs_ex l
  have H := Lib.hid hl
  clear hl
  go_enter Try.func10, Try.ntmps10
  go_wp2_with (first | (go_at_call 35; refine (specLogger_any l n H.out _).mono ?_; rintro e V ⟨rfl, hV⟩; have Q1 := Lib.hid hV; clear hV) | (go_at_call 36; refine (implLogger_any l n H.out _).mono ?_; rintro e V2 ⟨rfl, hV⟩; have Q2 := Lib.hid hV; clear hV))
  go_ret
  exact ⟨rfl, Q1.out.trans (Q2.out.mono Q1.out.size)⟩

set_option maxRecDepth 100000 in
theorem fnExactLoggerOf_walk (W : World) (base : Nat) (args : Array Value) (hn : args.size = Try.f10.params.size)
    (hv : ∀ (j : Nat) t v, Try.f10.params[j]? = some t → args[j]? = some v → Value.okWide Try.prog W .any base t v) :
    Calls Try.prog 10 args W fun e W' => e = .returned (.bool true) ∧ Below W.heap.size W W' := by
  rw [Try.params10] at hn hv
  obtain ⟨l⟩ := args
  match l, hn with
  | [v0], _ =>
    obtain ⟨a, rfl, ha⟩ := okWide_f32 (hv 0 _ v0 rfl rfl)
    exact fnExactLoggerOf_calls a W

set_option maxRecDepth 100000 in
theorem fnExactLoggerOf_holds : Rows.FnExactLoggerOfSaid :=
  OpenClaim.holds_of_wide 10 Try.f10 rfl rfl rfl rfl rfl rfl rfl ⟨rfl, rfl, rfl, rfl, rfl⟩ rfl rfl rfl rfl rfl (by kernel_rfl) Try.func10 (by kernel_rfl)
    (of_decide_eq_true (by kernel_rfl)) (by unfold Func.isWrapper; first | (rw [if_pos (by decide +kernel)]; kernel_rfl) | (rw [if_neg (by decide +kernel)]; exact ⟨rfl, rfl⟩))
    (fun os started H enc _ => lift 10 Try.f10 Rows.fnExactLoggerOfSpec Try.func10 rfl rfl
      (fun H ds h => match ds, h with | [d0], _ => rfl)
      (by rw [Try.params10]; exact (by decide +kernel))
      fnExactLoggerOf_walk os started H enc (by kernel_rfl)
      (ChangeSpec.witness6 (enc := enc) (C := Try.checked) false ⟨#[], #[.float .f32 0], []⟩ 16 (by kernel_rfl) (by kernel_rfl) (by kernel_rfl) (by kernel_rfl)))
#print axioms fnExactLoggerOf_holds
end Go.Proofs.Ythklihenghnaeaa
