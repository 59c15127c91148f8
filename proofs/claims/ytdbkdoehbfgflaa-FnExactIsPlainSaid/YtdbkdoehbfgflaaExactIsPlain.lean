/- The law FnExactIsPlain of this commit: for every input the call returns true, and each argument reads afterwards as it read before. Condition: none. -/
import Derived.Test.YtdbkdoehbfgflaaLift
import Derived.Test.YtdbkdoehbfgflaaSmall
namespace Go.Proofs.Ytdbkdoehbfgflaa
open Go.ChangeShapes Go.WideShapes Go.ChangeAt Go.RowKit

theorem fnExactIsPlain_walk (W : World) (base : Nat) (args : Array Value) (hn : args.size = Try.f5.params.size)
    (hv : ∀ (j : Nat) t v, Try.f5.params[j]? = some t → args[j]? = some v → Value.okWide Try.prog W .any base t v) :
    Calls Try.prog 5 args W fun e W' => e = .returned (.bool true) ∧ Below W.heap.size W W' := by
  rw [Try.params5] at hn hv
  obtain ⟨l⟩ := args
  match l, hn with
  | [v0], _ =>
    obtain ⟨b, rfl⟩ := okWide_float Try.underlying24 (hv 0 _ v0 rfl rfl)
    exact isPlain_calls b W

set_option maxRecDepth 100000 in
theorem fnExactIsPlain_holds : Rows.FnExactIsPlainSaid :=
  OpenClaim.holds_of_wide 5 Try.f5 rfl rfl rfl rfl rfl rfl rfl ⟨rfl, rfl, rfl, rfl, rfl⟩ rfl rfl rfl rfl rfl (by kernel_rfl) Try.func5 (by kernel_rfl)
    (of_decide_eq_true (by kernel_rfl)) (by unfold Func.isWrapper; first | (rw [if_pos (by decide +kernel)]; kernel_rfl) | (rw [if_neg (by decide +kernel)]; exact ⟨rfl, rfl⟩))
    (fun os started H enc _ => lift 5 Try.f5 Rows.fnExactIsPlainSpec Try.func5 rfl rfl
      (fun H ds h => match ds, h with | [d0], _ => rfl)
      (by rw [Try.params5]; exact (by decide +kernel))
      fnExactIsPlain_walk os started H enc (by kernel_rfl)
      (ChangeSpec.witness6 (enc := enc) (C := Try.checked) false ⟨#[], #[.float .f32 0], []⟩ 16 (by kernel_rfl) (by kernel_rfl) (by kernel_rfl) (by kernel_rfl)))
#print axioms fnExactIsPlain_holds
end Go.Proofs.Ytdbkdoehbfgflaa
