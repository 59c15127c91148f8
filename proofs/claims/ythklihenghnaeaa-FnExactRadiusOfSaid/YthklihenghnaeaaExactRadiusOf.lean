/- The law FnExactRadiusOf of this commit: for every input the call returns true, and each argument reads afterwards as it read before. Condition: none. -/
import Derived.Test.YthklihenghnaeaaLiftB
import Derived.Test.YthklihenghnaeaaRa
namespace Go.Proofs.Ythklihenghnaeaa
open Go.ChangeShapes Go.WideShapes Go.ChangeAt Go.RowKit
set_option linter.unusedSimpArgs false
set_option linter.unusedVariables false

set_option maxRecDepth 100000 in
set_option maxHeartbeats 2000000 in
theorem fnExactRadiusOf_calls (T S : Nat) (hT : T < 4294967296) (hS : S < 4294967296) (X Y : Int) (R : Nat) (hX : -128 ≤ X ∧ X ≤ 127) (hY : -128 ≤ Y ∧ Y ≤ 127) (t : Int) (L : Nat) (hL : L < 4294967296) (w : World) : Calls Try.prog 9 #[.agg (Aq T S), .agg (We X Y R), .int .i64 t, .float .f32 L] w fun e w' => e = .returned (.bool true) ∧ Below w.heap.size w w' := by
  obtain ⟨o, n, hV⟩ : ∃ o n, radV T S R X Y t L = (o, n) := ⟨_, _, rfl⟩
  have HV := Lib.hid hV
  clear hV
  go_enter Try.func9, Try.ntmps9
  go_upto_region 1 with (fail)
  obtain ⟨z, b0, b1, B0⟩ := laid2 w (.cells (Aq T S) 42) (.cells (We X Y R) 46)
  obtain ⟨W, hW⟩ : ∃ W, (w.alloc (.cells (Aq T S) 42) |>.alloc (.cells (We X Y R) 46)) = W := ⟨_, rfl⟩
  rw [hW] at z b0 b1 B0 ⊢
  have R0 := Lib.hid (rangeAt_row b0)
  have R1 := Lib.hid (rangeAt_row b1)
  clear hW b0 b1
  refine wp_region_calm (ops' := regOf Try.f9 1) [0, 1, 2, 3, 4, 5, 6, 7, 8, 9, 10, 11] [] .fin (Below (w.heap.size + 1 + 1) W) [(0, One (.agg (Aq T S))), (1, One (.agg (Aq T S))), (2, One (.agg (We X Y R))), (3, One (.agg (We X Y R))), (4, One (.int .i64 t)), (5, One (.float .f32 L)), (6, One (.tuple #[.int .i64 o, .int .i64 n])), (7, One (.tuple #[.int .i64 o, .int .i64 n])), (8, One (.int .i64 o)), (9, One (.int .i64 n)), (10, One (.int .i64 o)), (11, One (.int .i64 n))] (by kernel_rfl) (by kernel_rfl) (by kernel_rfl) (by kernel_rfl) (by kernel_rfl) (by kernel_rfl) (by kernel_rfl) (by kernel_rfl) rfl ((Below.refl _ _).drew) ?_
  refine calm_load (some 14) 42 (.tmp 4) (w.heap.size) 0 _ (by kernel_rfl) (by kernel_rfl) (by kernel_rfl) (by kernel_rfl) (by kernel_rfl) (fun w' hw' => range_kept (n := w.heap.size + 1 + 1) R0.out (by omega) _ hw') Try.underlying42 rfl (by kernel_rfl) ?_
  refine calm_call (some 15) 26 #[.agg (Aq T S)] ⟨_, rfl⟩ (by kernel_rfl) (by kernel_rfl) (by kernel_rfl) (fun _ => by kernel_rfl) (fun w' hw' => (toAquifer_any T S w').mono fun e w2 h => ⟨_, h.1, rfl, below_step hw' h.2 (by have := hw'.size; omega)⟩) ?_
  rintro _ rfl
  refine calm_load (some 16) 46 (.tmp 5) ((w.heap.size + 1)) 0 _ (by kernel_rfl) (by kernel_rfl) (by kernel_rfl) (by kernel_rfl) (by kernel_rfl) (fun w' hw' => range_kept (n := w.heap.size + 1 + 1) R1.out (by omega) _ hw') Try.underlying46 rfl (by kernel_rfl) ?_
  refine calm_call (some 17) 29 #[.agg (We X Y R)] ⟨_, rfl⟩ (by kernel_rfl) (by kernel_rfl) (by kernel_rfl) (fun _ => by kernel_rfl) (fun w' hw' => (toWell_any X Y R w').mono fun e w2 h => ⟨_, h.1, rfl, below_step hw' h.2 (by have := hw'.size; omega)⟩) ?_
  rintro _ rfl
  refine calm_pure (some 18) (by kernel_rfl) (by kernel_rfl) (by kernel_rfl) (fun _ => by kernel_rfl) ?_
  refine calm_pure (some 19) (by kernel_rfl) (by kernel_rfl) (by kernel_rfl) (fun _ => by kernel_rfl) ?_
  refine calm_call (some 20) 24 #[.agg (Aq T S), .agg (We X Y R), .int .i64 t, .float .f32 L] ⟨_, rfl⟩ (by kernel_rfl) (by kernel_rfl) (by kernel_rfl) (fun _ => by kernel_rfl) (fun w' hw' => (specRadiusOf_any T S hT hS X Y R hX hY t L w').mono fun e w2 h => (by obtain ⟨he, hq⟩ := h; rw [congrArg Prod.fst HV.out, congrArg Prod.snd HV.out] at he; exact ⟨_, he, rfl, below_step hw' hq (by have := hw'.size; omega)⟩)) ?_
  rintro _ rfl
  refine calm_pure (some 13) (by kernel_rfl) (by kernel_rfl) (by kernel_rfl) (fun _ => by kernel_rfl) ?_
  refine calm_pure (some 21) (by kernel_rfl) (by kernel_rfl) (by kernel_rfl) (fun _ => by kernel_rfl) ?_
  refine calm_pure (some 22) (by kernel_rfl) (by kernel_rfl) (by kernel_rfl) (fun _ => by kernel_rfl) ?_
  refine calm_pure (some 9) (by kernel_rfl) (by kernel_rfl) (by kernel_rfl) (fun _ => by kernel_rfl) ?_
  refine calm_pure (some 10) (by kernel_rfl) (by kernel_rfl) (by kernel_rfl) (fun _ => by kernel_rfl) ?_
  refine calm_end fun w1 hw1 => plan_end (Clean.normal ?_)
  have z1 := hw1.size
  have H1 := Lib.hid hw1
  clear hw1
  simp only [Act.put, List.setIfInBounds_toArray, List.set_cons_zero, List.set_cons_succ]
  go_upto_region 2 with (fail)
  refine wp_region_calm (ops' := regOf Try.f9 2) [0, 1, 2, 3, 4, 5, 6, 7, 8, 9, 10, 11] [] .fin (Below (w.heap.size + 1 + 1) w1) [(0, One (.agg (Aq T S))), (1, One (.agg (Aq T S))), (2, One (.agg (We X Y R))), (3, One (.agg (We X Y R))), (4, One (.int .i64 t)), (5, One (.float .f32 L)), (6, One (.tuple #[.int .i64 o, .int .i64 n])), (7, One (.tuple #[.int .i64 o, .int .i64 n])), (8, One (.int .i64 o)), (9, One (.int .i64 n)), (10, One (.int .i64 o)), (11, One (.int .i64 n))] (by kernel_rfl) (by kernel_rfl) (by kernel_rfl) (by kernel_rfl) (by kernel_rfl) (by kernel_rfl) (by kernel_rfl) (by kernel_rfl) rfl ((Below.refl _ _).drew) ?_
  refine calm_load (some 24) 42 (.tmp 4) (w.heap.size) 0 _ (by kernel_rfl) (by kernel_rfl) (by kernel_rfl) (by kernel_rfl) (by kernel_rfl) (fun w' hw' => range_kept (n := w.heap.size + 1 + 1) (range_kept R0.out (by omega) _ H1.out) (by omega) _ hw') Try.underlying42 rfl (by kernel_rfl) ?_
  refine calm_call (some 25) 26 #[.agg (Aq T S)] ⟨_, rfl⟩ (by kernel_rfl) (by kernel_rfl) (by kernel_rfl) (fun _ => by kernel_rfl) (fun w' hw' => (toAquifer_any T S w').mono fun e w2 h => ⟨_, h.1, rfl, below_step hw' h.2 (by have := hw'.size; omega)⟩) ?_
  rintro _ rfl
  refine calm_load (some 26) 46 (.tmp 5) ((w.heap.size + 1)) 0 _ (by kernel_rfl) (by kernel_rfl) (by kernel_rfl) (by kernel_rfl) (by kernel_rfl) (fun w' hw' => range_kept (n := w.heap.size + 1 + 1) (range_kept R1.out (by omega) _ H1.out) (by omega) _ hw') Try.underlying46 rfl (by kernel_rfl) ?_
  refine calm_call (some 27) 29 #[.agg (We X Y R)] ⟨_, rfl⟩ (by kernel_rfl) (by kernel_rfl) (by kernel_rfl) (fun _ => by kernel_rfl) (fun w' hw' => (toWell_any X Y R w').mono fun e w2 h => ⟨_, h.1, rfl, below_step hw' h.2 (by have := hw'.size; omega)⟩) ?_
  rintro _ rfl
  refine calm_pure (some 28) (by kernel_rfl) (by kernel_rfl) (by kernel_rfl) (fun _ => by kernel_rfl) ?_
  refine calm_pure (some 29) (by kernel_rfl) (by kernel_rfl) (by kernel_rfl) (fun _ => by kernel_rfl) ?_
  refine calm_call (some 30) 23 #[.agg (Aq T S), .agg (We X Y R), .int .i64 t, .float .f32 L] ⟨_, rfl⟩ (by kernel_rfl) (by kernel_rfl) (by kernel_rfl) (fun _ => by kernel_rfl) (fun w' hw' => (implRadiusOf_any T S hT hS X Y R hX hY t L w').mono fun e w2 h => (by obtain ⟨he, hq⟩ := h; rw [congrArg Prod.fst HV.out, congrArg Prod.snd HV.out] at he; exact ⟨_, he, rfl, below_step hw' hq (by have := hw'.size; omega)⟩)) ?_
  rintro _ rfl
  refine calm_pure (some 23) (by kernel_rfl) (by kernel_rfl) (by kernel_rfl) (fun _ => by kernel_rfl) ?_
  refine calm_pure (some 31) (by kernel_rfl) (by kernel_rfl) (by kernel_rfl) (fun _ => by kernel_rfl) ?_
  refine calm_pure (some 32) (by kernel_rfl) (by kernel_rfl) (by kernel_rfl) (fun _ => by kernel_rfl) ?_
  refine calm_pure (some 11) (by kernel_rfl) (by kernel_rfl) (by kernel_rfl) (fun _ => by kernel_rfl) ?_
  refine calm_pure (some 12) (by kernel_rfl) (by kernel_rfl) (by kernel_rfl) (fun _ => by kernel_rfl) ?_
  refine calm_end fun w2 hw2 => plan_end (Clean.normal ?_)
  have z2 := hw2.size
  have H2 := Lib.hid (H1.out.trans hw2)
  clear hw2
  have t1 : True := trivial
  simp only [Act.put, List.setIfInBounds_toArray, List.set_cons_zero, List.set_cons_succ]
  go_wp2
  go_ret
  exact ⟨rfl, B0.trans (H2.out.mono (by omega))⟩

set_option maxRecDepth 100000 in
theorem fnExactRadiusOf_walk (W : World) (base : Nat) (args : Array Value) (hn : args.size = Try.f9.params.size)
    (hv : ∀ (j : Nat) t v, Try.f9.params[j]? = some t → args[j]? = some v → Value.okWide Try.prog W .any base t v) :
    Calls Try.prog 9 args W fun e W' => e = .returned (.bool true) ∧ Below W.heap.size W W' := by
  rw [Try.params9] at hn hv
  obtain ⟨l⟩ := args
  match l, hn with
  | [v0, v1, v2, v3], _ =>
    obtain ⟨T, S, rfl, hT, hS⟩ := okWide_aq (hv 0 _ v0 rfl rfl)
    obtain ⟨X, Y, R, rfl, hX, hY, hR⟩ := okWide_we (hv 1 _ v1 rfl rfl)
    obtain ⟨t, rfl, _, _⟩ := okWideStr_i64 (hv 2 _ v2 rfl rfl)
    obtain ⟨L, rfl, hL⟩ := okWide_f32 (hv 3 _ v3 rfl rfl)
    exact fnExactRadiusOf_calls T S hT hS X Y R hX hY t L hL W

set_option maxRecDepth 100000 in
theorem fnExactRadiusOf_holds : Rows.FnExactRadiusOfSaid :=
  OpenClaim.holds_of_wide 9 Try.f9 rfl rfl rfl rfl rfl rfl rfl ⟨rfl, rfl, rfl, rfl, rfl⟩ rfl rfl rfl rfl rfl (by kernel_rfl) Try.func9 (by kernel_rfl)
    (of_decide_eq_true (by kernel_rfl)) (by unfold Func.isWrapper; first | (rw [if_pos (by decide +kernel)]; kernel_rfl) | (rw [if_neg (by decide +kernel)]; exact ⟨rfl, rfl⟩))
    (fun os started H enc _ => lift 9 Try.f9 Rows.fnExactRadiusOfSpec Try.func9 rfl rfl
      (fun H ds h => match ds, h with | [d0, d1, d2, d3], _ => rfl)
      (by rw [Try.params9]; exact (by decide +kernel))
      fnExactRadiusOf_walk os started H enc (by kernel_rfl)
      (ChangeSpec.witness6 (enc := enc) (C := Try.checked) false ⟨#[], #[.agg #[.float .f32 0, .float .f32 0], .agg #[.int .i8 0, .int .i8 0, .float .f32 0], .int .i64 0, .float .f32 0], []⟩ 16 (by kernel_rfl) (by kernel_rfl) (by kernel_rfl) (by kernel_rfl)))
#print axioms fnExactRadiusOf_holds
end Go.Proofs.Ythklihenghnaeaa
