/- The law FnExactDecaySalt: for every input the call returns true. Condition: the table of math/bits is laid. -/
import Derived.Test.YtnochmlhimddpaaDoorBriL
import Derived.Test.YtnochmlhimddpaaDoorBrDc
namespace Go.Proofs.YtnochmlhimddpaaDoor
open Go.RowKit Go.WideShapes
set_option linter.unusedSimpArgs false
set_option linter.unusedVariables false

set_option maxRecDepth 100000 in
set_option maxHeartbeats 2000000 in
theorem fnExactDecaySalt_calls (G : Brn) (x : Nat) (c : Int) (w : World) (hG : BrnOk G) (hx : FloatKind.f32.has x) (_lc : -9223372036854775808 ≤ c) (_uc : c ≤ 9223372036854775807) (hT : TabAt w) :
    Calls Tryd.prog 4 #[.agg (BrnA G), .float .f32 x, .int .i64 c] w fun e w' => e = .returned (.bool true) ∧ Below w.heap.size w w' := by
  obtain ⟨A, o1, oS, hV⟩ := decV_is G x c
  have HV := Lib.hid hV
  clear hV
  have hz := (zero_of_info zeroBrine).1
  go_enter Tryd.func4, Tryd.ntmps4
  go_upto_region 1 with (fail)
  obtain ⟨W, hW, hs, g1, hB, hT1⟩ := bbox_in G 29 w hT
  rw [hW]
  clear hW
  have HT := Lib.hid hT1
  have HB := Lib.hid hB
  have r1 := g1.range
  have G1 := Lib.hid g1
  have hn1 : w.heap.size < W.heap.size := by omega
  clear hT hT1 hB hs g1
  go_upto_region 2 with (first | (refine wpList_load_mid rfl 29 _ rfl w.heap.size 0 rfl (BrnL G) _ r1 Tryd.underlying29 rfl (by rw [BrnL_length]; exact infoLBrine) ?_) | (go_at_call 14; refine (toBrine_any G _).mono ?_; rintro e U1 ⟨rfl, hu1⟩) | (go_at_call 16; refine (specDecay_any G x c U1 hG).mono ?_; rintro e V1 ⟨he, hv1⟩; obtain ⟨p1, rfl, hp1⟩ := HV.out _ he; have P1 := Lib.hid hp1; clear he hp1) | (refine st_stage 36 rfl ?_; refine wpList_store_mid rfl 36 _ _ rfl _ 0 (BrnA { A with s := p1 }) rfl rfl (by rw [BrnA_size]; exact new_thereB _ V1) (by rw [BrnA_size]; exact infoBrine) (BrnA_one _) ?_; obtain ⟨X1, hX, zX1, gx1, bX1⟩ := stored_brn { A with s := p1 } 36 V1; rw [hX]; have hx1 : V1.heap.size < X1.heap.size := (by omega); clear hX zX1))
  have q1 := hu1.trans (hv1.mono hu1.size)
  have k1 := q1.trans (bX1.mono q1.size)
  have r2 := (G1.out.below k1 hn1).range
  have B1 := Lib.hid (HB.out.trans (k1.mono (by omega)))
  have T1 := Lib.hid (HT.out.below k1 (tab_lt HT.out))
  have hn2 : w.heap.size < X1.heap.size := by have := k1.size; omega
  have hn3 : w.heap.size ≤ V1.heap.size := by have := q1.size; omega
  have GX1 := Lib.hid gx1
  clear r1 hu1 hv1 q1 k1 bX1 gx1
  go_upto_region 3 with (first | (refine wpList_load_mid rfl 29 _ rfl w.heap.size 0 rfl (BrnL G) _ r2 Tryd.underlying29 rfl (by rw [BrnL_length]; exact infoLBrine) ?_) | (go_at_call 14; refine (toBrine_any G _).mono ?_; rintro e U2 ⟨rfl, hu2⟩) | (go_at_call 17; refine (implDecay_any G x c U2 hG (T1.out.below hu2 (tab_lt T1.out))).mono ?_; rintro e V2 ⟨he, hv2⟩; obtain ⟨p2, rfl, hp2⟩ := HV.out _ he; have P2 := Lib.hid hp2; clear he hp2) | (refine st_stage 36 rfl ?_; refine wpList_store_mid rfl 36 _ _ rfl _ 0 (BrnA { A with s := p2 }) rfl rfl (by rw [BrnA_size]; exact new_thereB _ V2) (by rw [BrnA_size]; exact infoBrine) (BrnA_one _) ?_; obtain ⟨X2, hX, zX2, gx2, bX2⟩ := stored_brn { A with s := p2 } 36 V2; rw [hX]; have hx2 : V2.heap.size < X2.heap.size := (by omega); clear hX zX2))
  have q2 := hu2.trans (hv2.mono hu2.size)
  have k2 := q2.trans (bX2.mono q2.size)
  have r4 := (GX1.out.below k2 (by omega)).range
  have r5 := gx2.range
  have B2 := Lib.hid (B1.out.trans (k2.mono (by omega)))
  have hn4 : w.heap.size ≤ X2.heap.size := by have := k2.size; omega
  clear r2 hu2 hv2 q2 k2 bX2 gx2 hz
  go_wp2_with (first | (refine wpList_load_mid rfl 36 _ rfl V2.heap.size 0 rfl (BrnL { A with s := p2 }) _ r5 Tryd.underlying36 rfl (by rw [BrnL_length]; exact infoBrine) ?_) | (refine wpList_load_mid rfl 36 _ rfl V1.heap.size 0 rfl (BrnL { A with s := p1 }) _ r4 Tryd.underlying36 rfl (by rw [BrnL_length]; exact infoBrine) ?_) | (go_at_call 18; refine (eqBrine_num { A with s := p2 } p1 (fun i hi => (P2.out i hi).trans (P1.out i hi).symm) _).mono ?_; rintro e Y ⟨rfl, hy⟩))
  go_ret
  exact ⟨rfl, B2.out.trans (hy.mono hn4)⟩

set_option maxRecDepth 100000 in
theorem fnExactDecaySalt_walk (W : World) (base : Nat) (args : Array Value) (hn : args.size = Tryd.f4.params.size)
    (hv : ∀ (j : Nat) t v, Tryd.f4.params[j]? = some t → args[j]? = some v → Value.okWide Tryd.prog W .any base t v) (hT : TabAt W) :
    Calls Tryd.prog 4 args W fun e W' => e = .returned (.bool true) ∧ Below W.heap.size W W' := by
  rw [Tryd.params4] at hn hv
  obtain ⟨l⟩ := args
  match l, hn with
  | [v0, v1, v2], _ =>
    obtain ⟨G, rfl, hG⟩ := okWide_brn (hv 0 _ v0 rfl rfl)
    obtain ⟨x, rfl, hx⟩ := okWide_f32 (hv 1 _ v1 rfl rfl)
    obtain ⟨c, rfl, _lc, _uc⟩ := okWide_i64 (hv 2 _ v2 rfl rfl)
    exact fnExactDecaySalt_calls G x c W hG hx _lc _uc hT
end Go.Proofs.YtnochmlhimddpaaDoor
