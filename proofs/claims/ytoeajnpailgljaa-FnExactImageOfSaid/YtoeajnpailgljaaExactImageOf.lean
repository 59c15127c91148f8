/- The law FnExactImageOf of this commit: for every input the call returns true, and each argument reads afterwards as it read before. Condition: none. -/
import Derived.Test.YtoeajnpailgljaaLiftB
import Derived.Test.YtoeajnpailgljaaIm
namespace Go.Proofs.Ytoeajnpailgljaa
open Go.ChangeShapes Go.WideShapes Go.ChangeAt Go.RowKit
set_option linter.unusedSimpArgs false
set_option linter.unusedVariables false
attribute [local go_sem] run_store_f32

set_option maxRecDepth 100000 in
set_option maxHeartbeats 2000000 in
theorem fnExactImageOf_calls (X Y : Int) (R : Nat) (hX : -128 ≤ X ∧ X ≤ 127) (hY : -128 ≤ Y ∧ Y ≤ 127) (tw : Int) (river : Bool) (w : World) : Calls Try.prog 10 #[.agg (We X Y R), .int .i64 tw, .bool river] w fun e w' => e = .returned (.bool true) ∧ Below w.heap.size w w' := by
  obtain ⟨a, b, r, hW⟩ := imgW_is X Y R tw river
  obtain ⟨n, hC⟩ : ∃ n, imgC X Y R tw = n := ⟨_, rfl⟩
  have B0 : Below w.heap.size w (w.alloc (.cells #[.int .i8 X, .int .i8 Y, .float .f32 R] 48)) := below_a _ _ w
  have z0 : (w.alloc (.cells #[.int .i8 X, .int .i8 Y, .float .f32 R] 48)).heap.size = w.heap.size + 1 := by simp
  have k0 := heap_alloc_last w (.cells #[.int .i8 X, .int .i8 Y, .float .f32 R] 48)
  have T0 := fun V => toWell_any X Y R V
  have T1 := fun V => specImageOf_any X Y R hX hY tw river V
  have T2 := fun V => implImageOf_any X Y R hX hY tw river V
  have T3 := fun V => eqWell_any a b r r rfl V
  simp only [hW, hC] at T1 T2
  simp only [We] at T0 T1 T2 T3 ⊢
  clear hW hC
  have t1 : True := trivial
  go_enter Try.func10, Try.ntmps10
  go_wp2_with (first | (have _t := t1; go_at_call 36; refine (T0 _).mono ?_; rintro e V1 ⟨rfl, hq1⟩; have Q1 := Lib.hid hq1; clear hq1 t1) | (go_at_call 47; refine (T1 _).mono ?_; rintro e V2 ⟨rfl, hq2⟩; have Q2 := Lib.hid (Q1.out.trans (hq2.mono Q1.out.size)); have hk := (Q2.out.block w.heap.size (by omega)).trans k0; have c0 := fun o => cell_of_row (V2.alloc o) _ 0 _ _ _ (laid_old hk); have c1 := fun o => cell_of_row (V2.alloc o) _ 1 _ _ _ (laid_old hk); have c2 := fun o => cell_of_row (V2.alloc o) _ 2 _ _ _ (laid_old hk); have zv := Q2.out.size; rw [z0] at zv; have hs := heap_alloc_last V2 (.cells #[.int .i8 a, .int .i8 b, .float .f32 r] 35); have zs : (V2.alloc (.cells #[.int .i8 a, .int .i8 b, .float .f32 r] 35)).heap.size = V2.heap.size + 1 := World.size_alloc _ _; clear hq2 hk) | (go_at_call 36; refine (T0 _).mono ?_; rintro e V3 ⟨rfl, hq3⟩; have Q3 := Lib.hid ((belowMore Q2.out _).trans (hq3.mono (by omega))); have hs3 := (hq3.block V2.heap.size (by omega)).trans hs; have z3 := hq3.size; rw [zs] at z3; clear hq3 hs zs c0 c1 c2) | (go_at_call 48; refine (T2 _).mono ?_; rintro e V4 ⟨rfl, hq4⟩; have Q4 := Lib.hid (Q3.out.trans (hq4.mono (by omega))); have hs4 := (hq4.block V2.heap.size (by omega)).trans hs3; have z4 := hq4.size; have e0 := fun o => cell_of_row (V4.alloc o) _ 0 _ _ _ (laid_old hs4); have e1 := fun o => cell_of_row (V4.alloc o) _ 1 _ _ _ (laid_old hs4); have e2 := fun o => cell_of_row (V4.alloc o) _ 2 _ _ _ (laid_old hs4); clear hq4 hs3 hs4) | (go_at_call 49; refine (T3 _).mono ?_; rintro e V5 ⟨rfl, hq5⟩; have Q5 := Lib.hid ((belowMore Q4.out _).trans (hq5.mono (by have h4 := Q4.out.size; simp only [World.size_alloc]; omega))); clear hq5))
  go_ret
  exact ⟨rfl, B0.trans (Q5.out.mono B0.size)⟩

set_option maxRecDepth 100000 in
theorem fnExactImageOf_walk (W : World) (base : Nat) (args : Array Value) (hn : args.size = Try.f10.params.size)
    (hv : ∀ (j : Nat) t v, Try.f10.params[j]? = some t → args[j]? = some v → Value.okWide Try.prog W .any base t v) :
    Calls Try.prog 10 args W fun e W' => e = .returned (.bool true) ∧ Below W.heap.size W W' := by
  rw [Try.params10] at hn hv
  obtain ⟨l⟩ := args
  match l, hn with
  | [v0, v1, v2], _ =>
    obtain ⟨X, Y, R, rfl, hX, hY, hR⟩ := okWide_we (hv 0 _ v0 rfl rfl)
    obtain ⟨tw, rfl, _, _⟩ := okWideStr_i64 (hv 1 _ v1 rfl rfl)
    obtain ⟨river, rfl⟩ := okWide_bool Try.underlying4 (hv 2 _ v2 rfl rfl)
    exact fnExactImageOf_calls X Y R hX hY tw river W

set_option maxRecDepth 100000 in
theorem fnExactImageOf_holds : Rows.FnExactImageOfSaid :=
  OpenClaim.holds_of_wide 10 Try.f10 rfl rfl rfl rfl rfl rfl rfl ⟨rfl, rfl, rfl, rfl, rfl⟩ rfl rfl rfl rfl rfl (by kernel_rfl) Try.func10 (by kernel_rfl)
    (of_decide_eq_true (by kernel_rfl)) (by unfold Func.isWrapper; first | (rw [if_pos (by decide +kernel)]; kernel_rfl) | (rw [if_neg (by decide +kernel)]; exact ⟨rfl, rfl⟩))
    (fun os started H enc _ => lift 10 Try.f10 Rows.fnExactImageOfSpec Try.func10 rfl rfl
      (fun H ds h => match ds, h with | [d0, d1, d2], _ => rfl)
      (by rw [Try.params10]; exact (by decide +kernel))
      fnExactImageOf_walk os started H enc (by kernel_rfl)
      (ChangeSpec.witness6 (enc := enc) (C := Try.checked) false ⟨#[], #[.agg #[.int .i8 0, .int .i8 0, .float .f32 0], .int .i64 0, .bool false], []⟩ 16 (by kernel_rfl) (by kernel_rfl) (by kernel_rfl) (by kernel_rfl)))
#print axioms fnExactImageOf_holds
end Go.Proofs.Ytoeajnpailgljaa
