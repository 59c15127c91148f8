/- The law FnExactStepsOf: for every input the call returns true. Condition: the table of math/bits is laid. -/
import Derived.Test.YtinepldaodadiaaDoorCell
import Derived.Test.YtinepldaodadiaaDoorSoi
namespace Go.Proofs.YtinepldaodadiaaDoor
open Go.RowKit Go.WideShapes
set_option linter.unusedSimpArgs false
set_option linter.unusedVariables false

set_option maxRecDepth 100000 in
set_option maxHeartbeats 2000000 in
theorem fnExactStepsOf_calls (G : Gd) (part : Nat) (y : Int) (w : World) (hG : GdOk G) (hpart : FloatKind.f32.has part) (_ly : -9223372036854775808 ≤ y) (_uy : y ≤ 9223372036854775807) (hT : TabAt w) :
    Calls Tryd.prog 3 #[.agg (Grd G), .float .f32 part, .int .i64 y] w fun e w' => e = .returned (.bool true) ∧ Below w.heap.size w w' := by
  obtain ⟨o0, o1, hV⟩ : ∃ (o0 : Gd) (o1 : Int), GN (sofV G part y).1 (sofV G part y).2 = .tuple #[.agg (Grd o0), .int .i64 o1] := ⟨_, _, rfl⟩
  have HV := Lib.hid hV
  clear hV
  have hz := (zero_of_info zeroGround).1
  go_enter Tryd.func3, Tryd.ntmps3
  go_upto_region 1 with (fail)
  obtain ⟨W, hW, hs, g1, hB, hT1⟩ := box_in G 27 w hT
  rw [hW]
  clear hW
  have HT := Lib.hid hT1
  have HB := Lib.hid hB
  have r1 := g1.range
  have G1 := Lib.hid g1
  have hn1 : w.heap.size < W.heap.size := by omega
  clear hT hT1 hB hs g1
  go_upto_region 2 with (first | (refine wpList_load_mid rfl 27 _ rfl w.heap.size 0 rfl (GrdL G) _ r1 Tryd.underlying27 rfl (by rw [GrdL_length]; exact infoLGround) ?_) | (go_at_call 5; refine (toGround_any G _).mono ?_; rintro e U1 ⟨rfl, hu1⟩) | (go_at_call 4; have hc := (specSof_any G part y U1 hG ⟨_ly, _uy⟩); rw [HV.out] at hc; refine hc.mono ?_; clear hc; rintro e V1 ⟨rfl, hv1⟩) | (refine st_stage 30 rfl ?_; refine wpList_store_mid rfl 30 _ _ rfl _ 0 (Grd o0) rfl rfl (by rw [Grd_size]; exact new_there _ V1) (by rw [Grd_size]; exact infoGround) (Grd_one _) ?_; obtain ⟨X1, hX, zX1, gx1, bX1⟩ := stored_box o0 30 V1; rw [hX]; have hx1 : V1.heap.size < X1.heap.size := (by omega); clear hX zX1))
  have q1 := hu1.trans (hv1.mono hu1.size)
  have k1 := q1.trans (bX1.mono q1.size)
  have r2 := (G1.out.below k1 hn1).range
  have B1 := Lib.hid (HB.out.trans (k1.mono (by omega)))
  have T1 := Lib.hid (HT.out.below k1 (tab_lt HT.out))
  have hn2 : w.heap.size < X1.heap.size := by have := k1.size; omega
  have hn3 : w.heap.size ≤ V1.heap.size := by have := q1.size; omega
  have GX1 := Lib.hid gx1
  clear r1 hu1 hv1 q1 k1 bX1 gx1
  go_upto_region 3 with (first | (refine wpList_load_mid rfl 27 _ rfl w.heap.size 0 rfl (GrdL G) _ r2 Tryd.underlying27 rfl (by rw [GrdL_length]; exact infoLGround) ?_) | (go_at_call 5; refine (toGround_any G _).mono ?_; rintro e U2 ⟨rfl, hu2⟩) | (go_at_call 6; have hc := (implSof_any G part y U2 hG (T1.out.below hu2 (tab_lt T1.out)) ⟨_ly, _uy⟩); rw [HV.out] at hc; refine hc.mono ?_; clear hc; rintro e V2 ⟨rfl, hv2⟩) | (refine st_stage 30 rfl ?_; refine wpList_store_mid rfl 30 _ _ rfl _ 0 (Grd o0) rfl rfl (by rw [Grd_size]; exact new_there _ V2) (by rw [Grd_size]; exact infoGround) (Grd_one _) ?_; obtain ⟨X2, hX, zX2, gx2, bX2⟩ := stored_box o0 30 V2; rw [hX]; have hx2 : V2.heap.size < X2.heap.size := (by omega); clear hX zX2))
  have q2 := hu2.trans (hv2.mono hu2.size)
  have k2 := q2.trans (bX2.mono q2.size)
  have r4 := (GX1.out.below k2 (by omega)).range
  have r5 := gx2.range
  have B2 := Lib.hid (B1.out.trans (k2.mono (by omega)))
  have hn4 : w.heap.size ≤ X2.heap.size := by have := k2.size; omega
  clear r2 hu2 hv2 q2 k2 bX2 gx2 hz
  go_wp2_with (first | (refine wpList_load_mid rfl 30 _ rfl V2.heap.size 0 rfl (GrdL o0) _ r5 Tryd.underlying30 rfl (by rw [GrdL_length]; exact infoGround) ?_) | (refine wpList_load_mid rfl 30 _ rfl V1.heap.size 0 rfl (GrdL o0) _ r4 Tryd.underlying30 rfl (by rw [GrdL_length]; exact infoGround) ?_) | (go_at_call 7; refine (eqGround_yes o0 _).mono ?_; rintro e Y ⟨rfl, hy⟩))
  go_ret
  exact ⟨rfl, B2.out.trans (hy.mono hn4)⟩

set_option maxRecDepth 100000 in
theorem fnExactStepsOf_walk (W : World) (base : Nat) (args : Array Value) (hn : args.size = Tryd.f3.params.size)
    (hv : ∀ (j : Nat) t v, Tryd.f3.params[j]? = some t → args[j]? = some v → Value.okWide Tryd.prog W .any base t v) (hT : TabAt W) :
    Calls Tryd.prog 3 args W fun e W' => e = .returned (.bool true) ∧ Below W.heap.size W W' := by
  rw [Tryd.params3] at hn hv
  obtain ⟨l⟩ := args
  match l, hn with
  | [v0, v1, v2], _ =>
    obtain ⟨G, rfl, hG⟩ := okWide_grd (hv 0 _ v0 rfl rfl)
    obtain ⟨part, rfl, hpart⟩ := okWide_f32 (hv 1 _ v1 rfl rfl)
    obtain ⟨y, rfl, _ly, _uy⟩ := okWide_i64 (hv 2 _ v2 rfl rfl)
    exact fnExactStepsOf_calls G part y W hG hpart _ly _uy hT
end Go.Proofs.YtinepldaodadiaaDoor
