/- The law FnExactSafeStep: for every input the call returns true. Condition: the table of math/bits is laid. -/
import Derived.Test.YtikefaollfaejaaDoorBriL
import Derived.Test.YtikefaollfaejaaDoorSaI
namespace Go.Proofs.YtikefaollfaejaaDoor
open Go.RowKit Go.WideShapes
set_option linter.unusedSimpArgs false
set_option linter.unusedVariables false

set_option maxRecDepth 100000 in
set_option maxHeartbeats 2000000 in
theorem fnExactSafeStep_calls (G : Brn) (w : World) (hG : BrnOk G) (hT : TabAt w) :
    Calls Tryd.prog 3 #[.agg (BrnA G)] w fun e w' => e = .returned (.bool true) ∧ Below w.heap.size w w' := by
  obtain ⟨o0, o1, hV⟩ : ∃ (o0 : Nat) (o1 : Int), safeV G = .tuple #[.float .f32 o0, .int .i64 o1] := safeV_is G
  have HV := Lib.hid hV
  clear hV
  go_enter Tryd.func3, Tryd.ntmps3
  go_upto_region 1 with (fail)
  obtain ⟨W, hW, hs, g1, hB, hT1⟩ := bbox_in G 29 w hT
  rw [hW]
  clear hW
  have HT := Lib.hid hT1
  have HB := Lib.hid hB
  have r1 := g1.range
  have G1 := Lib.hid g1
  have hn1 : w.heap.size < W.heap.size := by omega
  clear hT hT1 hB hs g1
  go_upto_region 2 with (first | (refine wpList_load_mid rfl 29 _ rfl w.heap.size 0 rfl (BrnL G) _ r1 Tryd.underlying29 rfl (by rw [BrnL_length]; exact infoLBrine) ?_) | (go_at_call 5; refine (toBrine_any G _).mono ?_; rintro e U1 ⟨rfl, hu1⟩) | (go_at_call 4; have hc := (specSafe_any G U1 hG); rw [HV.out] at hc; refine hc.mono ?_; clear hc; rintro e V1 ⟨rfl, hv1⟩))
  have q1 := hu1.trans (hv1.mono hu1.size)
  have k1 := q1
  have r2 := (G1.out.below k1 hn1).range
  have B1 := Lib.hid (HB.out.trans (k1.mono (by omega)))
  have T1 := Lib.hid (HT.out.below k1 (tab_lt HT.out))
  have hn2 : w.heap.size < V1.heap.size := by have := k1.size; omega
  clear r1 hu1 hv1 q1 k1
  go_upto_region 3 with (first | (refine wpList_load_mid rfl 29 _ rfl w.heap.size 0 rfl (BrnL G) _ r2 Tryd.underlying29 rfl (by rw [BrnL_length]; exact infoLBrine) ?_) | (go_at_call 5; refine (toBrine_any G _).mono ?_; rintro e U2 ⟨rfl, hu2⟩) | (go_at_call 6; have hc := (implSafe_any G U2 hG (T1.out.below hu2 (tab_lt T1.out))); rw [HV.out] at hc; refine hc.mono ?_; clear hc; rintro e V2 ⟨rfl, hv2⟩))
  have q2 := hu2.trans (hv2.mono hu2.size)
  have k2 := q2
  have B2 := Lib.hid (B1.out.trans (k2.mono (by omega)))
  have hn4 : w.heap.size ≤ V2.heap.size := by have := k2.size; omega
  clear r2 hu2 hv2 q2 k2
  have t1 : True := trivial
  go_wp2_with (first | (have _t := t1; refine wpList_conv_g (by kernel_rfl) _ _ _ rfl Tryd.underlying23 Tryd.underlying39 _ rfl ?_; intro x m hx; have X := Lib.hid hx; clear t1 hx) | (refine wpList_conv_g (by kernel_rfl) _ _ _ rfl Tryd.underlying23 Tryd.underlying39 _ rfl ?_; intro y m' hy; have Y' := Lib.hid hy; clear hy) | (go_at_call 7; refine (sameFloat_yes x y (by rw [X.out, Y'.out]) _).mono ?_; rintro e w' ⟨rfl, k, rfl⟩))
  go_ret
  exact ⟨rfl, (B2.out).trans (Quiet.below ⟨_, rfl⟩ _)⟩

set_option maxRecDepth 100000 in
theorem fnExactSafeStep_walk (W : World) (base : Nat) (args : Array Value) (hn : args.size = Tryd.f3.params.size)
    (hv : ∀ (j : Nat) t v, Tryd.f3.params[j]? = some t → args[j]? = some v → Value.okWide Tryd.prog W .any base t v) (hT : TabAt W) :
    Calls Tryd.prog 3 args W fun e W' => e = .returned (.bool true) ∧ Below W.heap.size W W' := by
  rw [Tryd.params3] at hn hv
  obtain ⟨l⟩ := args
  match l, hn with
  | [v0], _ =>
    obtain ⟨G, rfl, hG⟩ := okWide_brn (hv 0 _ v0 rfl rfl)
    exact fnExactSafeStep_calls G W hG hT
end Go.Proofs.YtikefaollfaejaaDoor
