/- The law FnExactDecayedNumber of this commit: for every input the call returns true, and each argument reads afterwards as it read before. Condition: none. -/
import Derived.Test.YtjmekgogaiokpabLiftB
import Derived.Test.YtjmekgogaiokpabDec
namespace Go.Proofs.Ytjmekgogaiokpab
open Go Go.ChangeShapes Go.WideShapes Go.ChangeAt Go.RowKit
set_option linter.unusedSimpArgs false
set_option linter.unusedVariables false

theorem decayed_is (a k : Nat) (n : Int) : ∃ (o : Option Nat) (m : Int), ∀ e, Decayed a k n e → ∃ r, e = .returned (.tuple #[.float .f32 r, .int .i64 m]) ∧ num .f32 r = o := by
  cases h : dkB a k n
  · exact ⟨num .f32 0, 2, fun e he => by unfold Decayed at he; rw [h, if_neg (by decide)] at he; exact ⟨0, he, rfl⟩⟩
  · exact ⟨dcO (num .f32 a) k n.toNat, 0, fun e he => by unfold Decayed at he; rw [h, if_pos rfl] at he; exact he⟩

set_option maxRecDepth 100000 in
set_option maxHeartbeats 4000000 in
theorem fnExactDecayedNumber_calls (a k : Nat) (n : Int) (w : World) : Calls Try.prog 4 #[.float .f32 a, .float .f32 k, .int .i64 n] w fun e w' => e = .returned (.bool true) ∧ Below w.heap.size w w' := by
  obtain ⟨o, m, hd⟩ := decayed_is a k n
  have HD := Lib.hid hd
  clear hd
  have t1 : True := trivial
  go_enter Try.func4, Try.ntmps4
  go_wp2_with (first | (go_at_call 9; refine (specDecayed_any a k n w).mono ?_; rintro e V1 ⟨he, hb⟩; obtain ⟨r1, rfl, hr1⟩ := HD.out _ he; have R1 := Lib.hid hr1; have B1 := Lib.hid hb; clear he hr1 hb) | (go_at_call 10; refine (implDecayed_any a k n V1).mono ?_; rintro e V2 ⟨he, hb⟩; obtain ⟨r2, rfl, hr2⟩ := HD.out _ he; have R2 := Lib.hid hr2; have B2 := Lib.hid (B1.out.trans (hb.mono B1.out.size)); clear he hr2 hb) | (have _t := t1; refine wpList_conv_g (by kernel_rfl) _ _ _ rfl Try.underlying23 Try.underlying41 _ rfl ?_; intro x m hx; have X := Lib.hid hx; clear t1 hx) | (refine wpList_conv_g (by kernel_rfl) _ _ _ rfl Try.underlying23 Try.underlying41 _ rfl ?_; intro y m' hy; have Y' := Lib.hid hy; clear hy) | (go_at_call 11; refine (sameFloat_yes x y (by rw [X.out, Y'.out, R1.out, R2.out]) _).mono ?_; rintro e w' ⟨rfl, k', rfl⟩))
  go_ret
  exact ⟨rfl, B2.out.trans (Quiet.below ⟨_, rfl⟩ _)⟩

set_option maxRecDepth 100000 in
theorem fnExactDecayedNumber_walk (W : World) (base : Nat) (args : Array Value) (hn : args.size = Try.f4.params.size)
    (hv : ∀ (j : Nat) t v, Try.f4.params[j]? = some t → args[j]? = some v → Value.okWide Try.prog W .any base t v) :
    Calls Try.prog 4 args W fun e W' => e = .returned (.bool true) ∧ Below W.heap.size W W' := by
  rw [Try.params4] at hn hv
  obtain ⟨l⟩ := args
  match l, hn with
  | [v0, v1, v2], _ =>
    obtain ⟨a, rfl, ha⟩ := okWide_f32 (hv 0 _ v0 rfl rfl)
    obtain ⟨k, rfl, hk⟩ := okWide_f32 (hv 1 _ v1 rfl rfl)
    obtain ⟨n, rfl, l1, l2⟩ := okWide_i64 (hv 2 _ v2 rfl rfl)
    exact fnExactDecayedNumber_calls a k n W

set_option maxRecDepth 100000 in
theorem fnExactDecayedNumber_holds : Rows.FnExactDecayedNumberSaid :=
  OpenClaim.holds_of_wide 4 Try.f4 rfl rfl rfl rfl rfl rfl rfl ⟨rfl, rfl, rfl, rfl, rfl⟩ rfl rfl rfl rfl rfl (by kernel_rfl) Try.func4 (by kernel_rfl)
    (of_decide_eq_true (by kernel_rfl)) (by unfold Func.isWrapper; first | (rw [if_pos (by decide +kernel)]; kernel_rfl) | (rw [if_neg (by decide +kernel)]; exact ⟨rfl, rfl⟩))
    (fun os started H enc _ => lift 4 Try.f4 Rows.fnExactDecayedNumberSpec Try.func4 rfl rfl
      (fun H ds h => match ds, h with | [d0, d1, d2], _ => rfl)
      (by rw [Try.params4]; exact (by decide +kernel))
      fnExactDecayedNumber_walk os started H enc (by kernel_rfl)
      (ChangeSpec.witness6 (enc := enc) (C := Try.checked) false ⟨#[], #[.float .f32 0, .float .f32 0, .int .i64 0], []⟩ 16 (by kernel_rfl) (by kernel_rfl) (by kernel_rfl) (by kernel_rfl)))
#print axioms fnExactDecayedNumber_holds
end Go.Proofs.Ytjmekgogaiokpab
