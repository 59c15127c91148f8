/- The law FnExactArgumentAt of this commit: for every input the call returns true, and each argument reads afterwards as it read before. Condition: none. -/
import Derived.Test.YthklihenghnaeaaLiftB
import Derived.Test.YthklihenghnaeaaOut
namespace Go.Proofs.Ythklihenghnaeaa
open Go.ChangeShapes Go.WideShapes Go.ChangeAt Go.RowKit
set_option linter.unusedSimpArgs false
set_option linter.unusedVariables false

set_option maxRecDepth 100000 in
set_option maxHeartbeats 2000000 in
theorem fnExactArgumentAt_calls (T S : Nat) (hT : T < 4294967296) (hS : S < 4294967296) (X Y : Int) (R : Nat) (hX : -128 ≤ X ∧ X ≤ 127) (hY : -128 ≤ Y ∧ Y ≤ 127) (x : Int) (y : Int) (t : Int) (w : World) : Calls Try.prog 5 #[.agg (Aq T S), .agg (We X Y R), .int .i64 x, .int .i64 y, .int .i64 t] w fun e w' => e = .returned (.bool true) ∧ Below w.heap.size w w' := by
  obtain ⟨o, n, hV⟩ : ∃ o n, outV (num .f32 (argN T S (x - X) (y - Y) t)) (askV T S X Y R x y [t]) = (o, n) := ⟨_, _, rfl⟩
  have hx : ∃ r, num .f32 r = o := by
    have := outV_ex (num_ex _ _) (askV T S X Y R x y [t]) (o := num .f32 (argN T S (x - X) (y - Y) t))
    rw [congrArg Prod.fst hV] at this
    exact this
  have HX := Lib.hid hx
  clear hx
  have HV := Lib.hid hV
  clear hV
  go_enter Try.func5, Try.ntmps5
  go_upto_region 1 with (fail)
  obtain ⟨z, b0, b1, B0⟩ := laid2 w (.cells (Aq T S) 42) (.cells (We X Y R) 46)
  obtain ⟨W, hW⟩ : ∃ W, (w.alloc (.cells (Aq T S) 42) |>.alloc (.cells (We X Y R) 46)) = W := ⟨_, rfl⟩
  rw [hW] at z b0 b1 B0 ⊢
  have R0 := Lib.hid (rangeAt_row b0)
  have R1 := Lib.hid (rangeAt_row b1)
  clear hW b0 b1
  refine wp_region_calm (ops' := regOf Try.f5 1) [0, 1, 2, 3, 4, 5, 6, 7, 8, 9, 10, 11, 12] [] .fin (Below (w.heap.size + 1 + 1) W) [(0, One (.agg (Aq T S))), (1, One (.agg (Aq T S))), (2, One (.agg (We X Y R))), (3, One (.agg (We X Y R))), (4, One (.int .i64 x)), (5, One (.int .i64 y)), (6, One (.int .i64 t)), (7, fun v => ∃ r, v = .tuple #[.float .f32 r, .int .i64 n] ∧ num .f32 r = o), (8, fun v => ∃ r, v = .tuple #[.float .f32 r, .int .i64 n] ∧ num .f32 r = o), (9, Numv .f32 (o)), (10, One (.int .i64 n)), (11, Numv .f32 (o)), (12, One (.int .i64 n))] (by kernel_rfl) (by kernel_rfl) (by kernel_rfl) (by kernel_rfl) (by kernel_rfl) (by kernel_rfl) (by kernel_rfl) (by kernel_rfl) rfl ((Below.refl _ _).drew) ?_
  refine calm_load (some 16) 42 (.tmp 5) (w.heap.size) 0 _ (by kernel_rfl) (by kernel_rfl) (by kernel_rfl) (by kernel_rfl) (by kernel_rfl) (fun w' hw' => range_kept (n := w.heap.size + 1 + 1) R0.out (by omega) _ hw') Try.underlying42 rfl (by kernel_rfl) ?_
  refine calm_call (some 17) 26 #[.agg (Aq T S)] ⟨_, rfl⟩ (by kernel_rfl) (by kernel_rfl) (by kernel_rfl) (fun _ => by kernel_rfl) (fun w' hw' => (toAquifer_any T S w').mono fun e w2 h => ⟨_, h.1, rfl, below_step hw' h.2 (by have := hw'.size; omega)⟩) ?_
  rintro _ rfl
  refine calm_load (some 18) 46 (.tmp 6) ((w.heap.size + 1)) 0 _ (by kernel_rfl) (by kernel_rfl) (by kernel_rfl) (by kernel_rfl) (by kernel_rfl) (fun w' hw' => range_kept (n := w.heap.size + 1 + 1) R1.out (by omega) _ hw') Try.underlying46 rfl (by kernel_rfl) ?_
  refine calm_call (some 19) 29 #[.agg (We X Y R)] ⟨_, rfl⟩ (by kernel_rfl) (by kernel_rfl) (by kernel_rfl) (fun _ => by kernel_rfl) (fun w' hw' => (toWell_any X Y R w').mono fun e w2 h => ⟨_, h.1, rfl, below_step hw' h.2 (by have := hw'.size; omega)⟩) ?_
  rintro _ rfl
  refine calm_pure (some 20) (by kernel_rfl) (by kernel_rfl) (by kernel_rfl) (fun _ => by kernel_rfl) ?_
  refine calm_pure (some 21) (by kernel_rfl) (by kernel_rfl) (by kernel_rfl) (fun _ => by kernel_rfl) ?_
  refine calm_pure (some 22) (by kernel_rfl) (by kernel_rfl) (by kernel_rfl) (fun _ => by kernel_rfl) ?_
  refine calm_call (some 23) 28 #[.agg (Aq T S), .agg (We X Y R), .int .i64 x, .int .i64 y, .int .i64 t] (by obtain ⟨r, hr⟩ := HX.out; exact ⟨_, r, rfl, hr⟩) (by kernel_rfl) (by kernel_rfl) (by kernel_rfl) (fun _ => by kernel_rfl) (fun w' hw' => (specArgumentAt_any T S hT hS X Y R hX hY x y t w').mono fun e w2 h => (by obtain ⟨r, he, hr, hq⟩ := h; rw [congrArg Prod.fst HV.out] at hr; rw [congrArg Prod.snd HV.out] at he; exact ⟨_, he, ⟨r, rfl, hr⟩, below_step hw' hq (by have := hw'.size; omega)⟩)) ?_
  rintro _ ⟨p, rfl, hp⟩
  refine calm_pureV (some 15) (.tuple #[.float .f32 p, .int .i64 n]) ⟨_, rfl, hp⟩ (by kernel_rfl) (by kernel_rfl) (by kernel_rfl) (fun _ => by kernel_rfl) ?_
  rintro _ ⟨r15, rfl, hr15⟩
  refine calm_pureV (some 24) (.float .f32 r15) ⟨_, rfl, hr15⟩ (by kernel_rfl) (by kernel_rfl) (by kernel_rfl) (fun _ => by kernel_rfl) ?_
  rintro _ ⟨r24, rfl, hr24⟩
  refine calm_pure (some 25) (by kernel_rfl) (by kernel_rfl) (by kernel_rfl) (fun _ => by kernel_rfl) ?_
  refine calm_pureV (some 11) (.float .f32 r24) ⟨_, rfl, hr24⟩ (by kernel_rfl) (by kernel_rfl) (by kernel_rfl) (fun _ => by kernel_rfl) ?_
  rintro _ ⟨r11, rfl, hr11⟩
  refine calm_pure (some 12) (by kernel_rfl) (by kernel_rfl) (by kernel_rfl) (fun _ => by kernel_rfl) ?_
  refine calm_end fun w1 hw1 => plan_end (Clean.normal ?_)
  have z1 := hw1.size
  have H1 := Lib.hid hw1
  clear hw1
  simp only [Act.put, List.setIfInBounds_toArray, List.set_cons_zero, List.set_cons_succ]
  go_upto_region 2 with (fail)
  refine wp_region_calm (ops' := regOf Try.f5 2) [0, 1, 2, 3, 4, 5, 6, 7, 8, 9, 10, 11, 12] [] .fin (Below (w.heap.size + 1 + 1) w1) [(0, One (.agg (Aq T S))), (1, One (.agg (Aq T S))), (2, One (.agg (We X Y R))), (3, One (.agg (We X Y R))), (4, One (.int .i64 x)), (5, One (.int .i64 y)), (6, One (.int .i64 t)), (7, fun v => ∃ r, v = .tuple #[.float .f32 r, .int .i64 n] ∧ num .f32 r = o), (8, fun v => ∃ r, v = .tuple #[.float .f32 r, .int .i64 n] ∧ num .f32 r = o), (9, Numv .f32 (o)), (10, One (.int .i64 n)), (11, Numv .f32 (o)), (12, One (.int .i64 n))] (by kernel_rfl) (by kernel_rfl) (by kernel_rfl) (by kernel_rfl) (by kernel_rfl) (by kernel_rfl) (by kernel_rfl) (by kernel_rfl) rfl ((Below.refl _ _).drew) ?_
  refine calm_load (some 27) 42 (.tmp 5) (w.heap.size) 0 _ (by kernel_rfl) (by kernel_rfl) (by kernel_rfl) (by kernel_rfl) (by kernel_rfl) (fun w' hw' => range_kept (n := w.heap.size + 1 + 1) (range_kept R0.out (by omega) _ H1.out) (by omega) _ hw') Try.underlying42 rfl (by kernel_rfl) ?_
  refine calm_call (some 28) 26 #[.agg (Aq T S)] ⟨_, rfl⟩ (by kernel_rfl) (by kernel_rfl) (by kernel_rfl) (fun _ => by kernel_rfl) (fun w' hw' => (toAquifer_any T S w').mono fun e w2 h => ⟨_, h.1, rfl, below_step hw' h.2 (by have := hw'.size; omega)⟩) ?_
  rintro _ rfl
  refine calm_load (some 29) 46 (.tmp 6) ((w.heap.size + 1)) 0 _ (by kernel_rfl) (by kernel_rfl) (by kernel_rfl) (by kernel_rfl) (by kernel_rfl) (fun w' hw' => range_kept (n := w.heap.size + 1 + 1) (range_kept R1.out (by omega) _ H1.out) (by omega) _ hw') Try.underlying46 rfl (by kernel_rfl) ?_
  refine calm_call (some 30) 29 #[.agg (We X Y R)] ⟨_, rfl⟩ (by kernel_rfl) (by kernel_rfl) (by kernel_rfl) (fun _ => by kernel_rfl) (fun w' hw' => (toWell_any X Y R w').mono fun e w2 h => ⟨_, h.1, rfl, below_step hw' h.2 (by have := hw'.size; omega)⟩) ?_
  rintro _ rfl
  refine calm_pure (some 31) (by kernel_rfl) (by kernel_rfl) (by kernel_rfl) (fun _ => by kernel_rfl) ?_
  refine calm_pure (some 32) (by kernel_rfl) (by kernel_rfl) (by kernel_rfl) (fun _ => by kernel_rfl) ?_
  refine calm_pure (some 33) (by kernel_rfl) (by kernel_rfl) (by kernel_rfl) (fun _ => by kernel_rfl) ?_
  refine calm_call (some 34) 30 #[.agg (Aq T S), .agg (We X Y R), .int .i64 x, .int .i64 y, .int .i64 t] (by obtain ⟨r, hr⟩ := HX.out; exact ⟨_, r, rfl, hr⟩) (by kernel_rfl) (by kernel_rfl) (by kernel_rfl) (fun _ => by kernel_rfl) (fun w' hw' => (implArgumentAt_any T S hT hS X Y R hX hY x y t w').mono fun e w2 h => (by obtain ⟨r, he, hr, hq⟩ := h; rw [congrArg Prod.fst HV.out] at hr; rw [congrArg Prod.snd HV.out] at he; exact ⟨_, he, ⟨r, rfl, hr⟩, below_step hw' hq (by have := hw'.size; omega)⟩)) ?_
  rintro _ ⟨q, rfl, hq⟩
  refine calm_pureV (some 26) (.tuple #[.float .f32 q, .int .i64 n]) ⟨_, rfl, hq⟩ (by kernel_rfl) (by kernel_rfl) (by kernel_rfl) (fun _ => by kernel_rfl) ?_
  rintro _ ⟨r26, rfl, hr26⟩
  refine calm_pureV (some 35) (.float .f32 r26) ⟨_, rfl, hr26⟩ (by kernel_rfl) (by kernel_rfl) (by kernel_rfl) (fun _ => by kernel_rfl) ?_
  rintro _ ⟨r35, rfl, hr35⟩
  refine calm_pure (some 36) (by kernel_rfl) (by kernel_rfl) (by kernel_rfl) (fun _ => by kernel_rfl) ?_
  refine calm_pureV (some 13) (.float .f32 r35) ⟨_, rfl, hr35⟩ (by kernel_rfl) (by kernel_rfl) (by kernel_rfl) (fun _ => by kernel_rfl) ?_
  rintro _ ⟨r13, rfl, hr13⟩
  refine calm_pure (some 14) (by kernel_rfl) (by kernel_rfl) (by kernel_rfl) (fun _ => by kernel_rfl) ?_
  refine calm_end fun w2 hw2 => plan_end (Clean.normal ?_)
  have z2 := hw2.size
  have H2 := Lib.hid (H1.out.trans hw2)
  clear hw2
  have t1 : True := trivial
  simp only [Act.put, List.setIfInBounds_toArray, List.set_cons_zero, List.set_cons_succ]
  go_wp2_with (first | (have _t := t1; refine wpList_conv rfl _ _ _ rfl Try.underlying24 Try.underlying49 _ rfl ?_; intro xx m hx; have XX := Lib.hid hx; clear t1 hx) | (refine wpList_conv rfl _ _ _ rfl Try.underlying24 Try.underlying49 _ rfl ?_; intro yy m' hy; have YY := Lib.hid hy; clear hy) | (go_at_call 31; refine (sameFloat_yes xx yy (by rw [XX.out, YY.out, hr13, hr11]) _).mono ?_; rintro e w' ⟨rfl, k, rfl⟩))
  go_ret
  exact ⟨rfl, (B0.trans (H2.out.mono (by omega))).trans (Quiet.below ⟨_, rfl⟩ _)⟩

set_option maxRecDepth 100000 in
theorem fnExactArgumentAt_walk (W : World) (base : Nat) (args : Array Value) (hn : args.size = Try.f5.params.size)
    (hv : ∀ (j : Nat) t v, Try.f5.params[j]? = some t → args[j]? = some v → Value.okWide Try.prog W .any base t v) :
    Calls Try.prog 5 args W fun e W' => e = .returned (.bool true) ∧ Below W.heap.size W W' := by
  rw [Try.params5] at hn hv
  obtain ⟨l⟩ := args
  match l, hn with
  | [v0, v1, v2, v3, v4], _ =>
    obtain ⟨T, S, rfl, hT, hS⟩ := okWide_aq (hv 0 _ v0 rfl rfl)
    obtain ⟨X, Y, R, rfl, hX, hY, hR⟩ := okWide_we (hv 1 _ v1 rfl rfl)
    obtain ⟨x, rfl, _, _⟩ := okWideStr_i64 (hv 2 _ v2 rfl rfl)
    obtain ⟨y, rfl, _, _⟩ := okWideStr_i64 (hv 3 _ v3 rfl rfl)
    obtain ⟨t, rfl, _, _⟩ := okWideStr_i64 (hv 4 _ v4 rfl rfl)
    exact fnExactArgumentAt_calls T S hT hS X Y R hX hY x y t W

set_option maxRecDepth 100000 in
theorem fnExactArgumentAt_holds : Rows.FnExactArgumentAtSaid :=
  OpenClaim.holds_of_wide 5 Try.f5 rfl rfl rfl rfl rfl rfl rfl ⟨rfl, rfl, rfl, rfl, rfl⟩ rfl rfl rfl rfl rfl (by kernel_rfl) Try.func5 (by kernel_rfl)
    (of_decide_eq_true (by kernel_rfl)) (by unfold Func.isWrapper; first | (rw [if_pos (by decide +kernel)]; kernel_rfl) | (rw [if_neg (by decide +kernel)]; exact ⟨rfl, rfl⟩))
    (fun os started H enc _ => lift 5 Try.f5 Rows.fnExactArgumentAtSpec Try.func5 rfl rfl
      (fun H ds h => match ds, h with | [d0, d1, d2, d3, d4], _ => rfl)
      (by rw [Try.params5]; exact (by decide +kernel))
      fnExactArgumentAt_walk os started H enc (by kernel_rfl)
      (ChangeSpec.witness6 (enc := enc) (C := Try.checked) false ⟨#[], #[.agg #[.float .f32 0, .float .f32 0], .agg #[.int .i8 0, .int .i8 0, .float .f32 0], .int .i64 0, .int .i64 0, .int .i64 0], []⟩ 16 (by kernel_rfl) (by kernel_rfl) (by kernel_rfl) (by kernel_rfl)))
#print axioms fnExactArgumentAt_holds
end Go.Proofs.Ythklihenghnaeaa
