/- The law FnExactTurnOf of this commit: for every input the call returns true, and each argument reads afterwards as it read before. Condition: none. -/
import Derived.Test.YtbafbhaahpjmcaaLiftB
import Derived.Test.YtbafbhaahpjmcaaWav
namespace Go.Proofs.Ytbafbhaahpjmcaa
open Go Go.ChangeShapes Go.WideShapes Go.ChangeAt Go.RowKit
set_option linter.unusedSimpArgs false
set_option linter.unusedVariables false
set_option maxRecDepth 100000 in
set_option maxHeartbeats 4000000 in
theorem fnExactTurnOf_calls (n : Int) (w : World) : Calls Try.prog 3 #[.int .i64 n] w fun e w' => e = .returned (.bool true) ∧ Below w.heap.size w w' := by
  obtain ⟨a, b, c, hd⟩ := turnV_is n
  have HD := Lib.hid hd
  clear hd
  have t1 : True := trivial
  go_enter Try.func3, Try.ntmps3
  go_wp2_with (first | (go_at_call 5; have hc := specTurnOf_any n w; rw [HD.out] at hc; refine hc.mono ?_; clear hc; rintro e V1 ⟨rfl, hb⟩; have B1 := Lib.hid hb; clear hb) | (go_at_call 6; have hc := implTurnOf_any n V1; rw [HD.out] at hc; refine hc.mono ?_; clear hc; rintro e V2 ⟨rfl, hb⟩; have B2 := Lib.hid (B1.out.trans (hb.mono B1.out.size)); clear hb) | (have _t := t1; refine wpList_convC (by kernel_rfl) _ _ _ rfl Try.underlying23 Try.underlying27 _ _ rfl ?_; intro x1 x2 m hx1 hx2; have X1 := Lib.hid hx1; have X2 := Lib.hid hx2; clear t1 hx1 hx2) | (refine wpList_convC (by kernel_rfl) _ _ _ rfl Try.underlying23 Try.underlying27 _ _ rfl ?_; intro y1 y2 m' hy1 hy2; have Y1 := Lib.hid hy1; have Y2 := Lib.hid hy2; clear hy1 hy2) | (go_at_call 7; refine (sameComplex_yes x1 x2 y1 y2 (by rw [X1.out, Y1.out]) (by rw [X2.out, Y2.out]) _).mono ?_; rintro e w' ⟨rfl, k', rfl⟩))
  go_ret
  exact ⟨rfl, B2.out.trans (Quiet.below ⟨_, rfl⟩ _)⟩

set_option maxRecDepth 100000 in
theorem fnExactTurnOf_walk (W : World) (base : Nat) (args : Array Value) (hn : args.size = Try.f3.params.size)
    (hv : ∀ (j : Nat) t v, Try.f3.params[j]? = some t → args[j]? = some v → Value.okWide Try.prog W .any base t v) :
    Calls Try.prog 3 args W fun e W' => e = .returned (.bool true) ∧ Below W.heap.size W W' := by
  rw [Try.params3] at hn hv
  obtain ⟨l⟩ := args
  match l, hn with
  | [v0], _ =>
    obtain ⟨n, rfl, l1, l2⟩ := okWide_i64 (hv 0 _ v0 rfl rfl)
    exact fnExactTurnOf_calls n W

set_option maxRecDepth 100000 in
theorem fnExactTurnOf_holds : Rows.FnExactTurnOfSaid :=
  OpenClaim.holds_of_wide 3 Try.f3 rfl rfl rfl rfl rfl rfl rfl ⟨rfl, rfl, rfl, rfl, rfl⟩ rfl rfl rfl rfl rfl (by kernel_rfl) Try.func3 (by kernel_rfl)
    (of_decide_eq_true (by kernel_rfl)) (by unfold Func.isWrapper; first | (rw [if_pos (by decide +kernel)]; kernel_rfl) | (rw [if_neg (by decide +kernel)]; exact ⟨rfl, rfl⟩))
    (fun os started H enc _ => lift 3 Try.f3 Rows.fnExactTurnOfSpec Try.func3 rfl rfl
      (fun H ds h => match ds, h with | [d0], _ => rfl)
      (by rw [Try.params3]; exact (by decide +kernel))
      fnExactTurnOf_walk os started H enc (by kernel_rfl)
      (ChangeSpec.witness6 (enc := enc) (C := Try.checked) false ⟨#[], #[.int .i64 0], []⟩ 16 (by kernel_rfl) (by kernel_rfl) (by kernel_rfl) (by kernel_rfl)))
#print axioms fnExactTurnOf_holds
end Go.Proofs.Ytbafbhaahpjmcaa
