/- The law FnExactPumpAt: for every input the call returns true. Condition: the table of math/bits is laid. -/
import Derived.Test.YtdhnneidkdoplaaDoorCell
import Derived.Test.YtdhnneidkdoplaaDoorPump
namespace Go.Proofs.YtdhnneidkdoplaaDoor
open Go.RowKit Go.WideShapes
set_option linter.unusedSimpArgs false
set_option linter.unusedVariables false

theorem pair_there1 (t u : TypeId) (V : World) : ((V.alloc (.cells (Grd zG) t)).alloc (.cells (Fld zf) u)).there V.heap.size 0 195 := by
  have b1 : Below (V.heap.size + 1) (V.alloc (.cells (Grd zG) t)) ((V.alloc (.cells (Grd zG) t)).alloc (.cells (Fld zf) u)) := (Below.refl _ _).alloc (by simp) _
  exact ((GBox.of_row (heap_alloc_last V (.cells (Grd zG) t))).below b1 (by omega)).there
theorem pair_there2 (t u : TypeId) (V : World) (vs : List Value) : (((V.alloc (.cells (Grd zG) t)).alloc (.cells (Fld zf) u)).setCells V.heap.size 0 vs).there (V.heap.size + 1) 0 64 := by
  have h := new_thereF u (V.alloc (.cells (Grd zG) t))
  rw [World.size_alloc] at h
  exact World.there_setCells h _ _ _
theorem pair_box (A : Gd) (f : Nat → Nat) (t u : TypeId) (V : World) : ∃ X, ((((V.alloc (.cells (Grd zG) t)).alloc (.cells (Fld zf) u)).setCells V.heap.size 0 (Grd A).toList).setCells (V.heap.size + 1) 0 (Fld f).toList) = X ∧ V.heap.size + 1 < X.heap.size ∧ GBox X V.heap.size A ∧ X.rangeAt (V.heap.size + 1) 0 (Fld f).toList ∧ Below V.heap.size V X := by
  have b1 : Below (V.heap.size + 1) (V.alloc (.cells (Grd zG) t)) ((V.alloc (.cells (Grd zG) t)).alloc (.cells (Fld zf) u)) := (Below.refl _ _).alloc (by simp) _
  have b0 : Below V.heap.size V ((V.alloc (.cells (Grd zG) t)).alloc (.cells (Fld zf) u)) := ((Below.refl V.heap.size V).alloc (Nat.le_refl _) _).alloc (by simp) _
  have g := (GBox.of_row (heap_alloc_last V (.cells (Grd zG) t))).below b1 (by omega)
  have g2 : GBox ((((V.alloc (.cells (Grd zG) t)).alloc (.cells (Fld zf) u)).setCells V.heap.size 0 (Grd A).toList).setCells (V.heap.size + 1) 0 (Fld f).toList) V.heap.size A := GBox.fars (by omega) g.store
  refine ⟨_, rfl, ?_, g2, World.rangeAt_setCells_same _ _ _ _ (by rw [show (Fld f).toList.length = 64 from Fld_length f]; exact pair_there2 t u V _), below_setCells _ (by omega) _ _ _ (below_setCells _ (Nat.le_refl _) _ _ _ b0)⟩
  rw [size_setCells, size_setCells]
  simp

set_option maxRecDepth 100000 in
set_option maxHeartbeats 2000000 in
theorem fnExactPumpAt_calls (G : Gd) (c : Int) (r x : Nat) (y : Int) (w : World) (hG : GdOk G) (l1 : -9223372036854775808 ≤ c) (l2 : c ≤ 9223372036854775807) (hT : TabAt w) :
    Calls Tryd.prog 16 #[.agg (Grd G), .int .i64 c, .float .f32 r, .float .f32 x, .int .i64 y] w fun e w' => e = .returned (.bool true) ∧ Below w.heap.size w w' := by
  obtain ⟨A, f, n, hV⟩ : ∃ (A : Gd) (f : Nat → Nat) (n : Int), pumpV G c r x y = .tuple #[.agg (Grd A), .agg (Fld f), .int .i64 n] := ⟨_, _, _, rfl⟩
  have HV := Lib.hid hV
  clear hV
  have hz := (zero_of_info zeroGround).1
  have hzf := (zero_of_info zeroField).1
  go_enter Tryd.func16, Tryd.ntmps16
  go_upto_region 1 with (fail)
  obtain ⟨W, hW, hs, g1, hB, hT1⟩ := box_in G 27 w hT
  rw [hW]
  clear hW
  have HT := Lib.hid hT1
  have HB := Lib.hid hB
  have r1 := g1.range
  have G1 := Lib.hid g1
  have hn1 : w.heap.size < W.heap.size := by omega
  clear hT hT1 hB hs g1
  go_upto_region 2 with (first | (refine ld_stage 27 rfl ?_; refine wpList_load_mid rfl 27 _ rfl w.heap.size 0 rfl (GrdL G) _ r1 Tryd.underlying27 rfl (by rw [GrdL_length]; exact infoLGround) ?_) | (go_at_call 18; refine (toGround_any G _).mono ?_; rintro e U1 ⟨rfl, hu1⟩) | (go_at_call 47; have hc := (specPump_any G c r x y U1 hG); rw [HV.out] at hc; refine hc.mono ?_; clear hc; rintro e V1 ⟨rfl, hv1⟩; have tA1 := pair_there1 32 30 V1; have tB1 := pair_there2 32 30 V1) | (refine st_stage 32 rfl ?_; refine wpList_store_mid rfl 32 _ _ rfl _ 0 (Grd A) rfl rfl (by rw [Grd_size]; with_reducible exact tA1) (by rw [Grd_size]; exact infoGround) (Grd_one _) ?_) | (refine st_stage 30 rfl ?_; refine wpList_store_mid rfl 30 _ _ rfl _ 0 (Fld f) rfl rfl (by rw [Fld_size]; with_reducible exact tB1 _) (by rw [Fld_size]; exact infoField) (Fld_one _) ?_))
  obtain ⟨X1, hX, zX1, gx1, fx1, bX1⟩ := pair_box A f 32 30 V1
  rw [hX]
  clear hX tA1 tB1
  have q1 := hu1.trans (hv1.mono hu1.size)
  have k1 := q1.trans (bX1.mono q1.size)
  have r2 := (G1.out.below k1 hn1).range
  have B1 := Lib.hid (HB.out.trans (k1.mono (by omega)))
  have T1 := Lib.hid (HT.out.below k1 (tab_lt HT.out))
  have hn2 : w.heap.size < X1.heap.size := by have := k1.size; omega
  have hn3 : w.heap.size ≤ V1.heap.size := by have := q1.size; omega
  have GX1 := Lib.hid gx1
  have FX1 := Lib.hid fx1
  clear r1 hu1 hv1 q1 k1 bX1 gx1 fx1
  go_upto_region 3 with (first | (refine ld_stage 27 rfl ?_; refine wpList_load_mid rfl 27 _ rfl w.heap.size 0 rfl (GrdL G) _ r2 Tryd.underlying27 rfl (by rw [GrdL_length]; exact infoLGround) ?_) | (go_at_call 18; refine (toGround_any G _).mono ?_; rintro e U2 ⟨rfl, hu2⟩) | (go_at_call 48; have hc := (implPump_any G c r x y U2 hG l1 l2 (T1.out.below hu2 (tab_lt T1.out))); rw [HV.out] at hc; refine hc.mono ?_; clear hc; rintro e V2 ⟨rfl, hv2⟩; have tA2 := pair_there1 32 30 V2; have tB2 := pair_there2 32 30 V2) | (refine st_stage 32 rfl ?_; refine wpList_store_mid rfl 32 _ _ rfl _ 0 (Grd A) rfl rfl (by rw [Grd_size]; with_reducible exact tA2) (by rw [Grd_size]; exact infoGround) (Grd_one _) ?_) | (refine st_stage 30 rfl ?_; refine wpList_store_mid rfl 30 _ _ rfl _ 0 (Fld f) rfl rfl (by rw [Fld_size]; with_reducible exact tB2 _) (by rw [Fld_size]; exact infoField) (Fld_one _) ?_))
  obtain ⟨X2, hX, zX2, gx2, fx2, bX2⟩ := pair_box A f 32 30 V2
  rw [hX]
  clear hX tA2 tB2
  have q2 := hu2.trans (hv2.mono hu2.size)
  have k2 := q2.trans (bX2.mono q2.size)
  have r4 := (GX1.out.below k2 (by omega)).range
  have r5 := gx2.range
  have f4 := range_kept FX1.out (by omega) _ k2
  have f5 := fx2
  have B2 := Lib.hid (B1.out.trans (k2.mono (by omega)))
  have hn4 : w.heap.size ≤ X2.heap.size := by have := k2.size; omega
  have zz2 : V2.heap.size + 1 < X2.heap.size := zX2
  have zz1 : V1.heap.size + 1 < X2.heap.size := by have := k2.size; omega
  clear r2 hu2 hv2 q2 k2 bX2 gx2 fx2 hz hzf zX2 zX1
  go_wp2_with (first | (refine wpList_load_mid rfl 32 _ rfl V2.heap.size 0 rfl (GrdL A) _ r5 Tryd.underlying32 rfl (by rw [GrdL_length]; exact infoGround) ?_) | (refine wpList_load_mid rfl 32 _ rfl V1.heap.size 0 rfl (GrdL A) _ r4 Tryd.underlying32 rfl (by rw [GrdL_length]; exact infoGround) ?_) | (go_at_call 27; refine (eqGround_yes A _).mono ?_; rintro e Y ⟨rfl, hy⟩; have f6 := range_kept f4 zz1 _ hy; have f7 := range_kept f5 zz2 _ hy) | (refine ld_stage 30 rfl ?_; refine wpList_load_g (by kernel_rfl) 30 _ rfl (V2.heap.size + 1) 0 rfl (Fld f).toList _ f7 Tryd.underlying30 rfl (by rw [Fld_length]; exact infoField) ?_) | (refine ld_stage 30 rfl ?_; refine wpList_load_g (by kernel_rfl) 30 _ rfl (V1.heap.size + 1) 0 rfl (Fld f).toList _ f6 Tryd.underlying30 rfl (by rw [Fld_length]; exact infoField) ?_) | (go_at_call 30; refine (eqField_yes f _).mono ?_; rintro e Y2 ⟨rfl, hy2⟩))
  go_ret
  exact ⟨rfl, (B2.out.trans (hy.mono hn4)).trans (hy2.mono (by have := hy.size; omega))⟩

set_option maxRecDepth 100000 in
theorem fnExactPumpAt_walk (W : World) (base : Nat) (args : Array Value) (hn : args.size = Tryd.f16.params.size)
    (hv : ∀ (j : Nat) t v, Tryd.f16.params[j]? = some t → args[j]? = some v → Value.okWide Tryd.prog W .any base t v) (hT : TabAt W) :
    Calls Tryd.prog 16 args W fun e W' => e = .returned (.bool true) ∧ Below W.heap.size W W' := by
  rw [Tryd.params16] at hn hv
  obtain ⟨l⟩ := args
  match l, hn with
  | [v0, v1, v2, v3, v4], _ =>
    obtain ⟨G, rfl, hG⟩ := okWide_grd (hv 0 _ v0 rfl rfl)
    obtain ⟨c, rfl, _lc, _uc⟩ := okWide_i64 (hv 1 _ v1 rfl rfl)
    obtain ⟨r, rfl, hr⟩ := okWide_f32 (hv 2 _ v2 rfl rfl)
    obtain ⟨x, rfl, hx⟩ := okWide_f32 (hv 3 _ v3 rfl rfl)
    obtain ⟨y, rfl, _ly, _uy⟩ := okWide_i64 (hv 4 _ v4 rfl rfl)
    exact fnExactPumpAt_calls G c r x y W hG _lc _uc hT
end Go.Proofs.YtdhnneidkdoplaaDoor
