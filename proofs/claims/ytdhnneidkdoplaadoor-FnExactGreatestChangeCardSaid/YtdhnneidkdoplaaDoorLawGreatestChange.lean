/- The law FnExactGreatestChange: for every input the call returns true. Condition: the table of math/bits is laid. -/
import Derived.Test.YtdhnneidkdoplaaDoorCell
import Derived.Test.YtdhnneidkdoplaaDoorGc
namespace Go.Proofs.YtdhnneidkdoplaaDoor
open Go.RowKit Go.WideShapes
set_option linter.unusedSimpArgs false
set_option linter.unusedVariables false

set_option maxRecDepth 100000 in
set_option maxHeartbeats 2000000 in
theorem fnExactGreatestChange_calls (G H : Gd) (w : World) (hG : GdOk G) (hH : GdOk H) (hT : TabAt w) :
    Calls Tryd.prog 8 #[.agg (Grd G), .agg (Grd H)] w fun e w' => e = .returned (.bool true) ∧ Below w.heap.size w w' := by
  obtain ⟨o0, o1, o2, hV⟩ : ∃ (o0 : Int) (o1 : Nat) (o2 : Int), gcV G H = .tuple #[.int .i64 o0, .float .f32 o1, .int .i64 o2] := gcV_is G H
  have HV := Lib.hid hV
  clear hV
  go_enter Tryd.func8, Tryd.ntmps8
  go_upto_region 1 with (fail)
  obtain ⟨W, hW, hz, g1, g2, hB⟩ := gbox2 G H 27 27 w
  rw [hW]
  clear hW
  have R1 := Lib.hid g1.range
  have R2 := Lib.hid g2.range
  have HB := Lib.hid hB
  have HG := Lib.hid hG
  have HH := Lib.hid hH
  have hlt := tab_lt hT
  have HT := Lib.hid (hT.below hB (tab_lt hT))
  clear g1 g2 hB hG hH hT
  refine wp_region_calm (ops' := regOf Tryd.f8 1) [0, 1, 2, 3, 4, 5, 6, 7, 8, 9, 10, 11] [] .fin (Below (w.heap.size + 1 + 1) W) [(0, One (.agg (Grd G))), (1, One (.agg (Grd G))), (2, One (.agg (Grd H))), (3, One (.agg (Grd H))), (4, One (.tuple #[.int .i64 o0, .float .f32 o1, .int .i64 o2])), (5, One (.tuple #[.int .i64 o0, .float .f32 o1, .int .i64 o2])), (6, One (.int .i64 o0)), (7, One (.float .f32 o1)), (8, One (.int .i64 o2)), (9, One (.int .i64 o0)), (10, One (.float .f32 o1)), (11, One (.int .i64 o2))] (by kernel_rfl) (by kernel_rfl) (by kernel_rfl) (by kernel_rfl) (by kernel_rfl) (by kernel_rfl) (by kernel_rfl) (by kernel_rfl) rfl ((Below.refl _ _).drew) ?_
  refine calm_load (some 12) 27 (.tmp 2) (w.heap.size) 0 _ (by kernel_rfl) (by kernel_rfl) (by kernel_rfl) (by kernel_rfl) (by kernel_rfl) (fun w' hw' => range_kept (n := w.heap.size + 1 + 1) R1.out (by omega) _ hw') Tryd.underlying27 rfl (by rw [Grd_toList, GrdL_length]; exact infoLGround) ?_
  refine calm_call (some 13) 18 #[.agg (Grd G)] ⟨_, rfl⟩ (by kernel_rfl) (by kernel_rfl) (by kernel_rfl) (fun _ => by kernel_rfl) (fun w' hw' => (toGround_any G w').mono fun e w2 h => ⟨_, h.1, rfl, below_step hw' h.2 (by have := hw'.size; omega)⟩) ?_
  rintro _ rfl
  refine calm_load (some 14) 27 (.tmp 3) ((w.heap.size + 1)) 0 _ (by kernel_rfl) (by kernel_rfl) (by kernel_rfl) (by kernel_rfl) (by kernel_rfl) (fun w' hw' => range_kept (n := w.heap.size + 1 + 1) R2.out (by omega) _ hw') Tryd.underlying27 rfl (by rw [Grd_toList, GrdL_length]; exact infoLGround) ?_
  refine calm_call (some 15) 18 #[.agg (Grd H)] ⟨_, rfl⟩ (by kernel_rfl) (by kernel_rfl) (by kernel_rfl) (fun _ => by kernel_rfl) (fun w' hw' => (toGround_any H w').mono fun e w2 h => ⟨_, h.1, rfl, below_step hw' h.2 (by have := hw'.size; omega)⟩) ?_
  rintro _ rfl
  refine calm_call (some 16) 31 #[.agg (Grd G), .agg (Grd H)] ⟨_, rfl⟩ (by kernel_rfl) (by kernel_rfl) (by kernel_rfl) (fun _ => by kernel_rfl) (fun w' hw' => (specGc_any G H w' HG.out HH.out).mono fun e w2 h => ⟨_, h.1.trans (congrArg Ending.returned HV.out), rfl, below_step hw' h.2 (by have := hw'.size; omega)⟩) ?_
  rintro _ rfl
  refine calm_pure (some 11) (by kernel_rfl) (by kernel_rfl) (by kernel_rfl) (fun _ => by kernel_rfl) ?_
  refine calm_pure (some 17) (by kernel_rfl) (by kernel_rfl) (by kernel_rfl) (fun _ => by kernel_rfl) ?_
  refine calm_pure (some 18) (by kernel_rfl) (by kernel_rfl) (by kernel_rfl) (fun _ => by kernel_rfl) ?_
  refine calm_pure (some 19) (by kernel_rfl) (by kernel_rfl) (by kernel_rfl) (fun _ => by kernel_rfl) ?_
  refine calm_pure (some 5) (by kernel_rfl) (by kernel_rfl) (by kernel_rfl) (fun _ => by kernel_rfl) ?_
  refine calm_pure (some 6) (by kernel_rfl) (by kernel_rfl) (by kernel_rfl) (fun _ => by kernel_rfl) ?_
  refine calm_pure (some 7) (by kernel_rfl) (by kernel_rfl) (by kernel_rfl) (fun _ => by kernel_rfl) ?_
  refine calm_end fun w1 hw1 => plan_end (Clean.normal ?_)
  have z1 := hw1.size
  have H1 := Lib.hid hw1
  clear hw1
  simp only [Act.put, List.setIfInBounds_toArray, List.set_cons_zero, List.set_cons_succ]
  go_upto_region 2 with (fail)
  refine wp_region_calm (ops' := regOf Tryd.f8 2) [0, 1, 2, 3, 4, 5, 6, 7, 8, 9, 10, 11] [] .fin (Below (w.heap.size + 1 + 1) W) [(0, One (.agg (Grd G))), (1, One (.agg (Grd G))), (2, One (.agg (Grd H))), (3, One (.agg (Grd H))), (4, One (.tuple #[.int .i64 o0, .float .f32 o1, .int .i64 o2])), (5, One (.tuple #[.int .i64 o0, .float .f32 o1, .int .i64 o2])), (6, One (.int .i64 o0)), (7, One (.float .f32 o1)), (8, One (.int .i64 o2)), (9, One (.int .i64 o0)), (10, One (.float .f32 o1)), (11, One (.int .i64 o2))] (by kernel_rfl) (by kernel_rfl) (by kernel_rfl) (by kernel_rfl) (by kernel_rfl) (by kernel_rfl) (by kernel_rfl) (by kernel_rfl) rfl (H1.out.drew) ?_
  refine calm_load (some 21) 27 (.tmp 2) (w.heap.size) 0 _ (by kernel_rfl) (by kernel_rfl) (by kernel_rfl) (by kernel_rfl) (by kernel_rfl) (fun w' hw' => range_kept (n := w.heap.size + 1 + 1) R1.out (by omega) _ hw') Tryd.underlying27 rfl (by rw [Grd_toList, GrdL_length]; exact infoLGround) ?_
  refine calm_call (some 22) 18 #[.agg (Grd G)] ⟨_, rfl⟩ (by kernel_rfl) (by kernel_rfl) (by kernel_rfl) (fun _ => by kernel_rfl) (fun w' hw' => (toGround_any G w').mono fun e w2 h => ⟨_, h.1, rfl, below_step hw' h.2 (by have := hw'.size; omega)⟩) ?_
  rintro _ rfl
  refine calm_load (some 23) 27 (.tmp 3) ((w.heap.size + 1)) 0 _ (by kernel_rfl) (by kernel_rfl) (by kernel_rfl) (by kernel_rfl) (by kernel_rfl) (fun w' hw' => range_kept (n := w.heap.size + 1 + 1) R2.out (by omega) _ hw') Tryd.underlying27 rfl (by rw [Grd_toList, GrdL_length]; exact infoLGround) ?_
  refine calm_call (some 24) 18 #[.agg (Grd H)] ⟨_, rfl⟩ (by kernel_rfl) (by kernel_rfl) (by kernel_rfl) (fun _ => by kernel_rfl) (fun w' hw' => (toGround_any H w').mono fun e w2 h => ⟨_, h.1, rfl, below_step hw' h.2 (by have := hw'.size; omega)⟩) ?_
  rintro _ rfl
  refine calm_call (some 25) 32 #[.agg (Grd G), .agg (Grd H)] ⟨_, rfl⟩ (by kernel_rfl) (by kernel_rfl) (by kernel_rfl) (fun _ => by kernel_rfl) (fun w' hw' => (implGc_any G H w' HG.out HH.out (HT.out.below hw' (by omega))).mono fun e w2 h => ⟨_, h.1.trans (congrArg Ending.returned HV.out), rfl, below_step hw' h.2 (by have := hw'.size; omega)⟩) ?_
  rintro _ rfl
  refine calm_pure (some 20) (by kernel_rfl) (by kernel_rfl) (by kernel_rfl) (fun _ => by kernel_rfl) ?_
  refine calm_pure (some 26) (by kernel_rfl) (by kernel_rfl) (by kernel_rfl) (fun _ => by kernel_rfl) ?_
  refine calm_pure (some 27) (by kernel_rfl) (by kernel_rfl) (by kernel_rfl) (fun _ => by kernel_rfl) ?_
  refine calm_pure (some 28) (by kernel_rfl) (by kernel_rfl) (by kernel_rfl) (fun _ => by kernel_rfl) ?_
  refine calm_pure (some 8) (by kernel_rfl) (by kernel_rfl) (by kernel_rfl) (fun _ => by kernel_rfl) ?_
  refine calm_pure (some 9) (by kernel_rfl) (by kernel_rfl) (by kernel_rfl) (fun _ => by kernel_rfl) ?_
  refine calm_pure (some 10) (by kernel_rfl) (by kernel_rfl) (by kernel_rfl) (fun _ => by kernel_rfl) ?_
  refine calm_end fun w2 hw2 => plan_end (Clean.normal ?_)
  have z2 := hw2.size
  have H2 := Lib.hid hw2
  clear hw2
  have t1 : True := trivial
  simp only [Act.put, List.setIfInBounds_toArray, List.set_cons_zero, List.set_cons_succ]
  go_wp2_with (first | (have _t := t1; refine wpList_conv_g (by kernel_rfl) _ _ _ rfl Tryd.underlying23 Tryd.underlying35 _ rfl ?_; intro x m hx; have X := Lib.hid hx; clear t1 hx) | (refine wpList_conv_g (by kernel_rfl) _ _ _ rfl Tryd.underlying23 Tryd.underlying35 _ rfl ?_; intro y m' hy; have Y' := Lib.hid hy; clear hy) | (go_at_call 20; refine (sameFloat_yes x y (by rw [X.out, Y'.out]) _).mono ?_; rintro e w' ⟨rfl, k, rfl⟩))
  go_ret
  exact ⟨rfl, HB.out.trans ((H2.out.mono (by omega)).trans (Quiet.below ⟨_, rfl⟩ _))⟩

set_option maxRecDepth 100000 in
theorem fnExactGreatestChange_walk (W : World) (base : Nat) (args : Array Value) (hn : args.size = Tryd.f8.params.size)
    (hv : ∀ (j : Nat) t v, Tryd.f8.params[j]? = some t → args[j]? = some v → Value.okWide Tryd.prog W .any base t v) (hT : TabAt W) :
    Calls Tryd.prog 8 args W fun e W' => e = .returned (.bool true) ∧ Below W.heap.size W W' := by
  rw [Tryd.params8] at hn hv
  obtain ⟨l⟩ := args
  match l, hn with
  | [v0, v1], _ =>
    obtain ⟨G, rfl, hG⟩ := okWide_grd (hv 0 _ v0 rfl rfl)
    obtain ⟨H, rfl, hH⟩ := okWide_grd (hv 1 _ v1 rfl rfl)
    exact fnExactGreatestChange_calls G H W hG hH hT
end Go.Proofs.YtdhnneidkdoplaaDoor
