/- The law FnExactGoneAfter of this commit: for every input the call returns true, and each argument reads afterwards as it read before. Condition: none. -/
import Derived.Test.YtjmekgogaiokpabLiftB
import Derived.Test.YtjmekgogaiokpabDec
namespace Go.Proofs.Ytjmekgogaiokpab
open Go Go.ChangeShapes Go.WideShapes Go.ChangeAt Go.RowKit
set_option linter.unusedSimpArgs false
set_option linter.unusedVariables false

set_option maxRecDepth 100000 in
set_option maxHeartbeats 4000000 in
theorem fnExactGoneAfter_calls (a k : Nat) (n : Int) (w : World) : Calls Try.prog 5 #[.float .f32 a, .float .f32 k, .int .i64 n] w fun e w' => e = .returned (.bool true) ∧ Below w.heap.size w w' := by
  obtain ⟨x, y, hd⟩ := goneV_is a k n
  have HD := Lib.hid hd
  clear hd
  have t1 : True := trivial
  go_enter Try.func5, Try.ntmps5
  go_wp2_with (first | (go_at_call 12; have hc := specGone_any a k n w; rw [HD.out] at hc; refine hc.mono ?_; clear hc; rintro e V1 ⟨rfl, hb⟩; have B1 := Lib.hid hb; clear hb) | (go_at_call 13; have hc := implGone_any a k n V1; rw [HD.out] at hc; refine hc.mono ?_; clear hc; rintro e V2 ⟨rfl, hb⟩; have B2 := Lib.hid (B1.out.trans (hb.mono B1.out.size)); clear hb))
  go_ret
  exact ⟨rfl, B2.out⟩

set_option maxRecDepth 100000 in
theorem fnExactGoneAfter_walk (W : World) (base : Nat) (args : Array Value) (hn : args.size = Try.f5.params.size)
    (hv : ∀ (j : Nat) t v, Try.f5.params[j]? = some t → args[j]? = some v → Value.okWide Try.prog W .any base t v) :
    Calls Try.prog 5 args W fun e W' => e = .returned (.bool true) ∧ Below W.heap.size W W' := by
  rw [Try.params5] at hn hv
  obtain ⟨l⟩ := args
  match l, hn with
  | [v0, v1, v2], _ =>
    obtain ⟨a, rfl, ha⟩ := okWide_f32 (hv 0 _ v0 rfl rfl)
    obtain ⟨k, rfl, hk⟩ := okWide_f32 (hv 1 _ v1 rfl rfl)
    obtain ⟨n, rfl, l1, l2⟩ := okWide_i64 (hv 2 _ v2 rfl rfl)
    exact fnExactGoneAfter_calls a k n W

set_option maxRecDepth 100000 in
theorem fnExactGoneAfter_holds : Rows.FnExactGoneAfterSaid :=
  OpenClaim.holds_of_wide 5 Try.f5 rfl rfl rfl rfl rfl rfl rfl ⟨rfl, rfl, rfl, rfl, rfl⟩ rfl rfl rfl rfl rfl (by kernel_rfl) Try.func5 (by kernel_rfl)
    (of_decide_eq_true (by kernel_rfl)) (by unfold Func.isWrapper; first | (rw [if_pos (by decide +kernel)]; kernel_rfl) | (rw [if_neg (by decide +kernel)]; exact ⟨rfl, rfl⟩))
    (fun os started H enc _ => lift 5 Try.f5 Rows.fnExactGoneAfterSpec Try.func5 rfl rfl
      (fun H ds h => match ds, h with | [d0, d1, d2], _ => rfl)
      (by rw [Try.params5]; exact (by decide +kernel))
      fnExactGoneAfter_walk os started H enc (by kernel_rfl)
      (ChangeSpec.witness6 (enc := enc) (C := Try.checked) false ⟨#[], #[.float .f32 0, .float .f32 0, .int .i64 0], []⟩ 16 (by kernel_rfl) (by kernel_rfl) (by kernel_rfl) (by kernel_rfl)))
#print axioms fnExactGoneAfter_holds
end Go.Proofs.Ytjmekgogaiokpab
