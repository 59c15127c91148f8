/- The law FnExactJointOf of this commit: for every input the call returns true, and each argument reads afterwards as it read before. Condition: none. -/
import Derived.Test.YtdbkdoehbfgflaaLift
import Derived.Test.YtdbkdoehbfgflaaJoint
namespace Go.Proofs.Ytdbkdoehbfgflaa
open Go.ChangeShapes Go.WideShapes Go.ChangeAt Go.RowKit

set_option maxRecDepth 100000 in
theorem fnExactJointOf_holds : Rows.FnExactJointOfSaid :=
  OpenClaim.holds_of_wide 8 Try.f8 rfl rfl rfl rfl rfl rfl rfl ⟨rfl, rfl, rfl, rfl, rfl⟩ rfl rfl rfl rfl rfl (by kernel_rfl) Try.func8 (by kernel_rfl)
    (of_decide_eq_true (by kernel_rfl)) (by unfold Func.isWrapper; first | (rw [if_pos (by decide +kernel)]; kernel_rfl) | (rw [if_neg (by decide +kernel)]; exact ⟨rfl, rfl⟩))
    (fun os started H enc _ => lift 8 Try.f8 Rows.fnExactJointOfSpec Try.func8 rfl rfl
      (fun H ds h => match ds, h with | [d0, d1], _ => rfl)
      (by rw [Try.params8]; exact (by decide +kernel))
      fnExactJointOf_walk os started H enc (by kernel_rfl)
      (ChangeSpec.witness6 (enc := enc) (C := Try.checked) false ⟨#[], #[.float .f32 0, .float .f32 0], []⟩ 16 (by kernel_rfl) (by kernel_rfl) (by kernel_rfl) (by kernel_rfl)))
#print axioms fnExactJointOf_holds
end Go.Proofs.Ytdbkdoehbfgflaa
