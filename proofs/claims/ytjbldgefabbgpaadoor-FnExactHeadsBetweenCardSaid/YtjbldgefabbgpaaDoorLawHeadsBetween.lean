/- The law FnExactHeadsBetween: for every input the call returns true. Condition: the table of math/bits is laid. -/
import Derived.Test.YtjbldgefabbgpaaDoorHeadsI
import Derived.Test.YtjbldgefabbgpaaDoorCell
namespace Go.Proofs.YtjbldgefabbgpaaDoor
open Go.RowKit Go.WideShapes
set_option linter.unusedSimpArgs false
set_option maxRecDepth 100000

set_option maxRecDepth 100000 in
set_option maxHeartbeats 1000000 in
theorem implHeads_any (G : Gd) (w : World) (hG : GdOk G) (hT : TabAt w) :
    Calls Tryd.prog 24 #[.agg (Grd G)] w fun e w' => e = .returned (hbV G) ∧ Below w.heap.size w w' := by
  cases hv : validB G
  · have Hv := Lib.hid hv
    have R := Lib.hid (show hbV G = FFI 0 0 1 by simp [hbV, hv])
    clear hv
    go_enter Tryd.func24, Tryd.ntmps24
    go_upto_region 1 with (fail)
    obtain ⟨W, hW, hs, g1, hB, hT1⟩ := box_in G 32 w hT
    rw [hW]
    clear hW
    have r1 := g1.range
    have HB := Lib.hid hB
    have HG := Lib.hid hG
    have HT := Lib.hid hT1
    clear g1 hB hG hT hT1
    go_wp2_with (first | (refine wpList_load_mid rfl 32 _ rfl w.heap.size 0 rfl (GrdL G) _ r1 Tryd.underlying32 rfl (by rw [GrdL_length]; exact infoGround) ?_) | (go_at_call 49; have hc := (validGround_any G W HG.out HT.out (tab_lt HT.out)); rw [Hv.out] at hc; refine hc.mono ?_; clear hc; rintro e w1 ⟨rfl, hb1⟩))
    go_ret3
    exact ⟨congrArg Ending.returned R.out.symm, HB.out.trans (hb1.mono (by omega))⟩
  · rw [show hbV G = FFI (rgTo G 63).1 (rgTo G 63).2 0 by simp [hbV, hv]]
    exact implHeads_valid G w hG hT hv

theorem hbV_is (G : Gd) : ∃ a b n, hbV G = FFI a b n := by
  unfold hbV
  split
  · exact ⟨_, _, _, rfl⟩
  · exact ⟨_, _, _, rfl⟩

set_option maxRecDepth 100000 in
set_option maxHeartbeats 2000000 in
theorem fnExactHeadsBetween_calls (G : Gd) (w : World) (hG : GdOk G) (hT : TabAt w) :
    Calls Tryd.prog 6 #[.agg (Grd G)] w fun e w' => e = .returned (.bool true) ∧ Below w.heap.size w w' := by
  obtain ⟨a, b, n, hbn⟩ := hbV_is G
  have HV := Lib.hid hbn
  clear hbn
  go_enter Tryd.func6, Tryd.ntmps6
  go_upto_region 1 with (fail)
  obtain ⟨W, hW, hz, g1, hB⟩ := gbox1 G 27 w
  rw [hW]
  clear hW
  have r1 := Lib.hid g1.range
  have HB := Lib.hid hB
  have HG := Lib.hid hG
  have HT := Lib.hid (hT.below hB (tab_lt hT))
  have hlt : 0 < w.heap.size := tab_lt hT
  clear g1 hB hG hT
  go_upto_region 2 with (first | (refine wpList_load_mid rfl 27 _ rfl w.heap.size 0 rfl (GrdL G) _ r1.out Tryd.underlying27 rfl (by rw [GrdL_length]; exact infoLGround) ?_) | (go_at_call 17; refine (toGround_any G _).mono ?_; rintro e w1 ⟨rfl, hb1⟩) | (go_at_call 23; refine (specHeads_any G _ HG.out).mono ?_; rintro e w2 ⟨rfl, hb2⟩; rw [HV.out]; unfold FFI))
  have z1 := hb1.size
  have z2 := hb2.size
  have hw2 := hb1.trans (hb2.mono (by omega))
  have r2 := range_kept (n := w.heap.size + 1) r1.out (by omega) _ (hw2.mono (by omega))
  have H1 := Lib.hid (HB.out.trans (hw2.mono (by omega)))
  have T1 := Lib.hid (HT.out.below hw2 (by omega))
  clear hw2 hb1 hb2 HB HT r1
  go_upto_region 3 with (first | (refine wpList_load_mid rfl 27 _ rfl w.heap.size 0 rfl (GrdL G) _ r2 Tryd.underlying27 rfl (by rw [GrdL_length]; exact infoLGround) ?_) | (go_at_call 17; refine (toGround_any G _).mono ?_; rintro e w3 ⟨rfl, hb3⟩) | (go_at_call 24; refine (implHeads_any G _ HG.out (T1.out.below hb3 (by omega))).mono ?_; rintro e w4 ⟨rfl, hb4⟩; rw [HV.out]; unfold FFI))
  have z3 := hb3.size
  have H2 := Lib.hid (H1.out.trans ((hb3.trans (hb4.mono (by omega))).mono (by omega)))
  clear hb3 hb4 r2 H1 T1
  have m1 : True := trivial
  have n1 : True := trivial
  go_wp2_with (first | (have _t := m1; refine wpList_conv_g (by kernel_rfl) _ _ _ rfl Tryd.underlying23 Tryd.underlying41 _ rfl ?_; intro x1 zx1 hx; have Hx1 := Lib.hid hx; clear m1 hx) | (have _t := n1; refine wpList_conv_g (by kernel_rfl) _ _ _ rfl Tryd.underlying23 Tryd.underlying41 _ rfl ?_; intro x2 zx2 hx; have Hx2 := Lib.hid hx; clear n1 hx) | (go_at_call 25; fail))
  refine (sameFloat_yes x1 x2 (by rw [Hx1.out, Hx2.out]) _).mono ?_
  rintro e w' ⟨rfl, ks1, rfl⟩
  have m2 : True := trivial
  have n2 : True := trivial
  go_wp2_with (first | (have _t := m2; refine wpList_conv_g (by kernel_rfl) _ _ _ rfl Tryd.underlying23 Tryd.underlying41 _ rfl ?_; intro x3 zx3 hx; have Hx3 := Lib.hid hx; clear m2 hx) | (have _t := n2; refine wpList_conv_g (by kernel_rfl) _ _ _ rfl Tryd.underlying23 Tryd.underlying41 _ rfl ?_; intro x4 zx4 hx; have Hx4 := Lib.hid hx; clear n2 hx) | (go_at_call 25; fail))
  refine (sameFloat_yes x3 x4 (by rw [Hx3.out, Hx4.out]) _).mono ?_
  rintro e w' ⟨rfl, ks2, rfl⟩
  go_wp2
  go_ret
  exact ⟨rfl, H2.out.trans (Quiet.below ⟨_, rfl⟩ _)⟩

theorem fnExactHeadsBetween_walk (W : World) (base : Nat) (args : Array Value) (hn : args.size = Tryd.f6.params.size)
    (hv : ∀ (j : Nat) t v, Tryd.f6.params[j]? = some t → args[j]? = some v → Value.okWide Tryd.prog W .any base t v) (hT : TabAt W) :
    Calls Tryd.prog 6 args W fun e W' => e = .returned (.bool true) ∧ Below W.heap.size W W' := by
  rw [Tryd.params6] at hn hv
  obtain ⟨l⟩ := args
  match l, hn with
  | [v0], _ =>
    obtain ⟨G, rfl, hG⟩ := okWide_grd (hv 0 _ v0 rfl rfl)
    exact fnExactHeadsBetween_calls G W hG hT
end Go.Proofs.YtjbldgefabbgpaaDoor
