/- The law FnExactHeadsBetween: for every input the call returns true. Condition: the table of math/bits is laid. -/
import Derived.Test.YtljbppladjnadaaDoorHeadsI
import Derived.Test.YtljbppladjnadaaDoorLawKit
namespace Go.Proofs.YtljbppladjnadaaDoor
open Go.RowKit Go.WideShapes
set_option linter.unusedSimpArgs false

theorem wpList_conv_g {P : Program} {ops : Array Oper} {rest : List Oper} {o : Oper} {a : Act} {w : World} {Q : Exit → Act → World → Prop} (hg : Region.wanted o (yielded ops a.tmps) = true) (src dst : TypeId) (x : Operand)
    (ho : o.op = .convert src dst x) (hs : P.underlying src = some (.float .f32)) (hd : P.underlying dst = some (.float .f64)) (b : Nat) (hx : a.eval x = .float .f32 b)
    (h : ∀ r n, num .f64 r = (num .f32 b).map cv → wpList P ops Q rest (a.put o.dst (.float .f64 r)) (w.drewN n)) : wpList P ops Q (o :: rest) a w :=
  wpList_step fun K hK => by
    rw [if_pos hg]
    obtain ⟨r, n, hr, hrun⟩ := run_conv P w src dst hs hd b
    unfold Oper.wp execOp
    simp only [ho, hx]
    simp only [Sem.run_bind, hrun, Result.andThen]
    exact hK _ _ (h r n hr)

set_option maxRecDepth 100000 in
set_option maxHeartbeats 1000000 in
theorem implHeads_any (G : Gd) (w : World) (hG : GdOk G) (hT : TabAt w) :
    Calls Tryd.prog 25 #[.agg (Grd G)] w fun e w' => e = .returned (hbV G) ∧ Below w.heap.size w w' := by
  cases hv : validB G
  · have Hv := Lib.hid hv
    have R := Lib.hid (show hbV G = FFI 0 0 1 by simp [hbV, hv])
    clear hv
    go_enter Tryd.func25, Tryd.ntmps25
    go_upto_region 1 with (fail)
    obtain ⟨W, hW, hs, g1, hB, hT1⟩ := box_in G 31 w hT
    rw [hW]
    clear hW
    have r1 := g1.range
    have HB := Lib.hid hB
    have HG := Lib.hid hG
    have HT := Lib.hid hT1
    clear g1 hB hG hT hT1
    go_wp2_with (first | (refine wpList_load_mid rfl 31 _ rfl w.heap.size 0 rfl (GrdL G) _ r1 Tryd.underlying31 rfl (by rw [GrdL_length]; exact infoGround) ?_) | (go_at_call 17; have hc := (validGround_any G W HG.out HT.out (tab_lt HT.out)); rw [Hv.out] at hc; refine hc.mono ?_; clear hc; rintro e w1 ⟨rfl, hb1⟩))
    go_ret3
    exact ⟨congrArg Ending.returned R.out.symm, HB.out.trans (hb1.mono (by omega))⟩
  · rw [show hbV G = FFI (rgTo G 63).1 (rgTo G 63).2 0 by simp [hbV, hv]]
    exact implHeads_valid G w hG hT hv

theorem hbV_is (G : Gd) : ∃ a b n, hbV G = FFI a b n := by
  unfold hbV
  split
  · exact ⟨_, _, _, rfl⟩
  · exact ⟨_, _, _, rfl⟩

set_option maxRecDepth 100000 in
set_option maxHeartbeats 2000000 in
theorem fnExactHeadsBetween_calls (G : Gd) (w : World) (hG : GdOk G) (hT : TabAt w) :
    Calls Tryd.prog 7 #[.agg (Grd G)] w fun e w' => e = .returned (.bool true) ∧ Below w.heap.size w w' := by
  obtain ⟨a, b, n, hbn⟩ := hbV_is G
  have HV := Lib.hid hbn
  clear hbn
  go_enter Tryd.func7, Tryd.ntmps7
  go_upto_region 1 with (fail)
  obtain ⟨W, hW, hz, g1, hB⟩ := gbox1 G 27 w
  rw [hW]
  clear hW
  have r1 := Lib.hid g1.range
  have HB := Lib.hid hB
  have HG := Lib.hid hG
  have HT := Lib.hid (hT.below hB (tab_lt hT))
  have hlt : 0 < w.heap.size := tab_lt hT
  clear g1 hB hG hT
  go_upto_region 2 with (first | (refine wpList_load_mid rfl 27 _ rfl w.heap.size 0 rfl (GrdL G) _ r1.out Tryd.underlying27 rfl (by rw [GrdL_length]; exact infoLGround) ?_) | (go_at_call 16; refine (toGround_any G _).mono ?_; rintro e w1 ⟨rfl, hb1⟩) | (go_at_call 24; refine (specHeads_any G _ HG.out).mono ?_; rintro e w2 ⟨rfl, hb2⟩; rw [HV.out]; unfold FFI))
  have z1 := hb1.size
  have z2 := hb2.size
  have hw2 := hb1.trans (hb2.mono (by omega))
  have r2 := range_kept (n := w.heap.size + 1) r1.out (by omega) _ (hw2.mono (by omega))
  have H1 := Lib.hid (HB.out.trans (hw2.mono (by omega)))
  have T1 := Lib.hid (HT.out.below hw2 (by omega))
  clear hw2 hb1 hb2 HB HT r1
  go_upto_region 3 with (first | (refine wpList_load_mid rfl 27 _ rfl w.heap.size 0 rfl (GrdL G) _ r2 Tryd.underlying27 rfl (by rw [GrdL_length]; exact infoLGround) ?_) | (go_at_call 16; refine (toGround_any G _).mono ?_; rintro e w3 ⟨rfl, hb3⟩) | (go_at_call 25; refine (implHeads_any G _ HG.out (T1.out.below hb3 (by omega))).mono ?_; rintro e w4 ⟨rfl, hb4⟩; rw [HV.out]; unfold FFI))
  have z3 := hb3.size
  have H2 := Lib.hid (H1.out.trans ((hb3.trans (hb4.mono (by omega))).mono (by omega)))
  clear hb3 hb4 r2 H1 T1
  have m1 : True := trivial
  have m2 : True := trivial
  have m3 : True := trivial
  have m4 : True := trivial
  have s1 : True := trivial
  have s2 : True := trivial
  go_wp2_with (first | (have _t := m1; refine wpList_conv rfl _ _ _ rfl Tryd.underlying23 Tryd.underlying42 _ rfl ?_; intro x1 zx1 hx; have X1 := Lib.hid hx; clear m1 hx) | (have _t := m2; refine wpList_conv rfl _ _ _ rfl Tryd.underlying23 Tryd.underlying42 _ rfl ?_; intro x2 zx2 hx; have X2 := Lib.hid hx; clear m2 hx) | (have _t := m3; refine wpList_conv_g rfl _ _ _ rfl Tryd.underlying23 Tryd.underlying42 _ rfl ?_; intro x3 zx3 hx; have X3 := Lib.hid hx; clear m3 hx) | (have _t := m4; refine wpList_conv_g rfl _ _ _ rfl Tryd.underlying23 Tryd.underlying42 _ rfl ?_; intro x4 zx4 hx; have X4 := Lib.hid hx; clear m4 hx) | (have _t := s1; go_at_call 26; refine (sameFloat_yes x1 x2 (by rw [X1.out, X2.out]) _).mono ?_; rintro e w' ⟨rfl, ks1, rfl⟩; clear s1) | (have _t := s2; go_at_call 26; refine (sameFloat_yes x3 x4 (by rw [X3.out, X4.out]) _).mono ?_; rintro e w' ⟨rfl, ks2, rfl⟩; clear s2))
  go_ret
  exact ⟨rfl, H2.out.trans (Quiet.below ⟨_, rfl⟩ _)⟩

theorem fnExactHeadsBetween_walk (W : World) (base : Nat) (args : Array Value) (hn : args.size = Tryd.f7.params.size)
    (hv : ∀ (j : Nat) t v, Tryd.f7.params[j]? = some t → args[j]? = some v → Value.okWide Tryd.prog W .any base t v) (hT : TabAt W) :
    Calls Tryd.prog 7 args W fun e W' => e = .returned (.bool true) ∧ Below W.heap.size W W' := by
  rw [Tryd.params7] at hn hv
  obtain ⟨l⟩ := args
  match l, hn with
  | [v0], _ =>
    obtain ⟨G, rfl, hG⟩ := okWide_grd (hv 0 _ v0 rfl rfl)
    exact fnExactHeadsBetween_calls G W hG hT
end Go.Proofs.YtljbppladjnadaaDoor
