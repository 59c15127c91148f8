/- ChangesBetween: the program's. Condition: the table of math/bits is laid. -/
import Derived.Test.YtdhnneidkdoplaaDoorChgS
namespace Go.Proofs.YtdhnneidkdoplaaDoor
open Go.RowKit Go.Shelf
attribute [local go_sem] Oper.semAt_some run_store_float
set_option linter.unusedSimpArgs false
set_option linter.unusedVariables false

/-- Two grounds, a field and a number are boxed. -/
theorem ggri_box (G H : Gd) (f : Nat → Nat) (n : Int) (t u v y : TypeId) (w : World) : ∃ W, (((w.alloc (.cells (Grd G) t)).alloc (.cells (Grd H) u)).alloc (.cells (Fld f) v)).alloc (.cells #[.int .i64 n] y) = W ∧ W.heap.size = w.heap.size + 1 + 1 + 1 + 1 ∧ GBox W w.heap.size G ∧ GBox W (w.heap.size + 1) H ∧ RowAt W (w.heap.size + 1 + 1) f ∧ W.cell? ⟨w.heap.size + 1 + 1 + 1, 0, none⟩ = some (.int .i64 n) ∧ W.frozen? ⟨w.heap.size + 1 + 1 + 1, 0, none⟩ = false ∧ Below w.heap.size w W := by
  obtain ⟨W1, h1, z1, g1, g2, q1, b1⟩ := ggr_box G H f t u v w
  have b2 : Below W1.heap.size W1 (W1.alloc (.cells #[.int .i64 n] y)) := (Below.refl _ _).alloc (Nat.le_refl _) _
  rw [h1]
  refine ⟨_, rfl, by simp [z1], g1.below b2 (by omega), g2.below b2 (by omega), q1.below b2 (by omega), ?_, ?_, b1.trans (b2.mono (by omega))⟩
  · rw [← z1]; exact cell_of_row _ _ 0 _ _ _ (heap_alloc_last W1 _)
  · rw [← z1]; have := (there_row (n := 1) (heap_alloc_last W1 (.cells #[.int .i64 n] y)) rfl 0 (by omega)).2; rwa [Nat.zero_add] at this

set_option maxRecDepth 100000 in
set_option maxHeartbeats 1000000 in
theorem implChg_bad1 (G H : Gd) (w : World) (hG : GdOk G) (hH : GdOk H) (hT : TabAt w) (hv : validB G = false) :
    Calls Tryd.prog 29 #[.agg (Grd G), .agg (Grd H)] w fun e w' => e = .returned (FN zf 1) ∧ Below w.heap.size w w' := by
  have hz := (zero_of_info zeroField).1
  have Hv := Lib.hid hv
  clear hv
  go_enter Tryd.func29, Tryd.ntmps29
  go_upto_region 1 with (fail)
  obtain ⟨W, hW, hs, g1, g2, q1, c1, f1, hB⟩ := ggri_box G H zf 0 32 32 30 2 w
  rw [hW]
  clear hW
  have r1 := g1.range
  have hl0 : w.heap.size < W.heap.size := by omega
  have hl1 : w.heap.size + 1 < W.heap.size := by omega
  have hl2 : w.heap.size + 1 + 1 < W.heap.size := by omega
  have hl3 : w.heap.size + 1 + 1 + 1 < W.heap.size := by omega
  have G1 := Lib.hid g1
  have G2 := Lib.hid g2
  have Q1 := Lib.hid q1
  have C1 := Lib.hid c1
  have F1 := Lib.hid f1
  have HB := Lib.hid hB
  have HG := Lib.hid hG
  have HH := Lib.hid hH
  have glt := tab_lt hT
  have HT := Lib.hid (hT.below hB (tab_lt hT))
  clear hs g1 g2 q1 c1 f1 hB hG hH hT
  have tk : True := trivial
  go_upto_region 2 with (first | (refine ld_stage 32 rfl ?_; refine wpList_load_g (by kernel_rfl) 32 _ rfl (w.heap.size) 0 rfl (GrdL G) _ (by with_reducible exact r1) Tryd.underlying32 rfl (by rw [GrdL_length]; exact infoGround) ?_) | (have _t := tk; go_at_call 67; have hc := (validGround_any G W HG.out HT.out (tab_lt HT.out)); rw [Hv.out] at hc; refine hc.mono ?_; clear hc; rintro e V ⟨rfl, hb⟩; have Hb := Lib.hid hb; have r2 := (G2.out.below hb hl1).range; clear hb tk))
  have q2 := Q1.out.below Hb.out hl2
  have t2 := q2.there
  have c2 := kc C1.out hl3 _ Hb.out
  have f2 : V.frozen? ⟨w.heap.size + 1 + 1 + 1, 0, none⟩ = false := ((Hb.out).frozen (p := ⟨w.heap.size + 1 + 1 + 1, 0, none⟩) hl3).trans F1.out
  obtain ⟨X, hX, x1, x2, x3, x4, x5, x6, x7⟩ := stored_row (g := zf) q2 (c := w.heap.size + 1 + 1 + 1) (by omega)
  have cX := x2 _ c2
  have fX := x3.trans f2
  have BX := Lib.hid (x6 w.heap.size w (by omega) (HB.out.trans ((Hb.out).mono (by omega))))
  have X1 := Lib.hid x1
  have HX := Lib.hid hX
  clear q2 c2 f2 x1 x2 x3 x4 x5 x6 x7 hX
  go_wp2_with (first | (refine st_stage 30 rfl ?_; refine wpList_store_mid rfl 30 _ _ rfl _ 0 (Fld (zf)) rfl rfl (by rw [Fld_size]; with_reducible exact t2) (by rw [Fld_size]; exact infoField) (Fld_one _) ?_); rw [HX.out])
  refine bodyPost_ret (results_fld_int rfl _ _ _ _ _ _ rfl rfl (X1.out.far _ _ (by omega)).range (World.cell?_setCell_same' _ _ _ (by rw [cX]; rfl)) Tryd.underlying30 rfl Tryd.underlying2 rfl infoField) rfl ⟨rfl, BX.out.setCell (by simp; omega) _⟩

set_option maxRecDepth 100000 in
set_option maxHeartbeats 1000000 in
theorem implChg_bad2 (G H : Gd) (w : World) (hG : GdOk G) (hH : GdOk H) (hT : TabAt w) (hv : validB G = true) (hv2 : validB H = false) :
    Calls Tryd.prog 29 #[.agg (Grd G), .agg (Grd H)] w fun e w' => e = .returned (FN zf 1) ∧ Below w.heap.size w w' := by
  have hz := (zero_of_info zeroField).1
  have Hv := Lib.hid hv
  have Hv2 := Lib.hid hv2
  clear hv hv2
  go_enter Tryd.func29, Tryd.ntmps29
  go_upto_region 1 with (fail)
  obtain ⟨W, hW, hs, g1, g2, q1, c1, f1, hB⟩ := ggri_box G H zf 0 32 32 30 2 w
  rw [hW]
  clear hW
  have r1 := g1.range
  have hl0 : w.heap.size < W.heap.size := by omega
  have hl1 : w.heap.size + 1 < W.heap.size := by omega
  have hl2 : w.heap.size + 1 + 1 < W.heap.size := by omega
  have hl3 : w.heap.size + 1 + 1 + 1 < W.heap.size := by omega
  have G1 := Lib.hid g1
  have G2 := Lib.hid g2
  have Q1 := Lib.hid q1
  have C1 := Lib.hid c1
  have F1 := Lib.hid f1
  have HB := Lib.hid hB
  have HG := Lib.hid hG
  have HH := Lib.hid hH
  have glt := tab_lt hT
  have HT := Lib.hid (hT.below hB (tab_lt hT))
  clear hs g1 g2 q1 c1 f1 hB hG hH hT
  have tk : True := trivial
  go_upto_region 2 with (first | (refine ld_stage 32 rfl ?_; refine wpList_load_g (by kernel_rfl) 32 _ rfl (w.heap.size) 0 rfl (GrdL G) _ (by with_reducible exact r1) Tryd.underlying32 rfl (by rw [GrdL_length]; exact infoGround) ?_) | (refine ld_stage 32 rfl ?_; refine wpList_load_g (by kernel_rfl) 32 _ rfl (w.heap.size + 1) 0 rfl (GrdL H) _ (by with_reducible exact r2) Tryd.underlying32 rfl (by rw [GrdL_length]; exact infoGround) ?_) | (have _t := tk; go_at_call 67; have hc := (validGround_any G W HG.out HT.out (tab_lt HT.out)); rw [Hv.out] at hc; refine hc.mono ?_; clear hc; rintro e V ⟨rfl, hb⟩; have Hb := Lib.hid hb; have r2 := (G2.out.below hb hl1).range; clear hb tk) | (go_at_call 67; have hc := (validGround_any H V HH.out (HT.out.below Hb.out (tab_lt HT.out)) (by have := tab_lt HT.out; have := Hb.out.size; omega)); rw [Hv2.out] at hc; refine hc.mono ?_; clear hc; rintro e V2 ⟨rfl, hb2⟩; have Hb2 := Lib.hid (Hb.out.trans (hb2.mono Hb.out.size)); clear hb2))
  have q2 := Q1.out.below Hb2.out hl2
  have t2 := q2.there
  have c2 := kc C1.out hl3 _ Hb2.out
  have f2 : V2.frozen? ⟨w.heap.size + 1 + 1 + 1, 0, none⟩ = false := ((Hb2.out).frozen (p := ⟨w.heap.size + 1 + 1 + 1, 0, none⟩) hl3).trans F1.out
  obtain ⟨X, hX, x1, x2, x3, x4, x5, x6, x7⟩ := stored_row (g := zf) q2 (c := w.heap.size + 1 + 1 + 1) (by omega)
  have cX := x2 _ c2
  have fX := x3.trans f2
  have BX := Lib.hid (x6 w.heap.size w (by omega) (HB.out.trans ((Hb2.out).mono (by omega))))
  have X1 := Lib.hid x1
  have HX := Lib.hid hX
  clear q2 c2 f2 x1 x2 x3 x4 x5 x6 x7 hX
  go_wp2_with (first | (refine st_stage 30 rfl ?_; refine wpList_store_mid rfl 30 _ _ rfl _ 0 (Fld (zf)) rfl rfl (by rw [Fld_size]; with_reducible exact t2) (by rw [Fld_size]; exact infoField) (Fld_one _) ?_); rw [HX.out])
  refine bodyPost_ret (results_fld_int rfl _ _ _ _ _ _ rfl rfl (X1.out.far _ _ (by omega)).range (World.cell?_setCell_same' _ _ _ (by rw [cX]; rfl)) Tryd.underlying30 rfl Tryd.underlying2 rfl infoField) rfl ⟨rfl, BX.out.setCell (by simp; omega) _⟩

set_option maxRecDepth 100000 in
set_option maxHeartbeats 1000000 in
theorem implChg_bad3 (G H : Gd) (w : World) (hG : GdOk G) (hH : GdOk H) (hT : TabAt w) (hv : validB G = true) (hv2 : validB H = true) (he : sameE G H = false) :
    Calls Tryd.prog 29 #[.agg (Grd G), .agg (Grd H)] w fun e w' => e = .returned (FN zf 4) ∧ Below w.heap.size w w' := by
  have hz := (zero_of_info zeroField).1
  have Hv := Lib.hid hv
  have Hv2 := Lib.hid hv2
  clear hv hv2
  go_enter Tryd.func29, Tryd.ntmps29
  go_upto_region 1 with (fail)
  obtain ⟨W, hW, hs, g1, g2, q1, c1, f1, hB⟩ := ggri_box G H zf 0 32 32 30 2 w
  rw [hW]
  clear hW
  have r1 := g1.range
  have hl0 : w.heap.size < W.heap.size := by omega
  have hl1 : w.heap.size + 1 < W.heap.size := by omega
  have hl2 : w.heap.size + 1 + 1 < W.heap.size := by omega
  have hl3 : w.heap.size + 1 + 1 + 1 < W.heap.size := by omega
  have G1 := Lib.hid g1
  have G2 := Lib.hid g2
  have Q1 := Lib.hid q1
  have C1 := Lib.hid c1
  have F1 := Lib.hid f1
  have HB := Lib.hid hB
  have HG := Lib.hid hG
  have HH := Lib.hid hH
  have glt := tab_lt hT
  have HT := Lib.hid (hT.below hB (tab_lt hT))
  clear hs g1 g2 q1 c1 f1 hB hG hH hT
  have tk : True := trivial
  go_upto_region 3 with (first | (refine ld_stage 32 rfl ?_; refine wpList_load_g (by kernel_rfl) 32 _ rfl (w.heap.size) 0 rfl (GrdL G) _ (by with_reducible exact r1) Tryd.underlying32 rfl (by rw [GrdL_length]; exact infoGround) ?_) | (refine ld_stage 32 rfl ?_; refine wpList_load_g (by kernel_rfl) 32 _ rfl (w.heap.size + 1) 0 rfl (GrdL H) _ (by with_reducible exact r2) Tryd.underlying32 rfl (by rw [GrdL_length]; exact infoGround) ?_) | (have _t := tk; go_at_call 67; have hc := (validGround_any G W HG.out HT.out (tab_lt HT.out)); rw [Hv.out] at hc; refine hc.mono ?_; clear hc; rintro e V ⟨rfl, hb⟩; have Hb := Lib.hid hb; have r2 := (G2.out.below hb hl1).range; clear hb tk) | (go_at_call 67; have hc := (validGround_any H V HH.out (HT.out.below Hb.out (tab_lt HT.out)) (by have := tab_lt HT.out; have := Hb.out.size; omega)); rw [Hv2.out] at hc; refine hc.mono ?_; clear hc; rintro e V2 ⟨rfl, hb2⟩; have Hb2 := Lib.hid (Hb.out.trans (hb2.mono Hb.out.size)); clear hb2))
  have P1 := Lib.hid (G1.out.below Hb2.out hl0)
  have P2 := Lib.hid (G2.out.below Hb2.out hl1)
  clear r1 r2
  have a0 := P1.out.at'.wide; have a1 := P1.out.at'.high; have b0 := P2.out.at'.wide; have b1 := P2.out.at'.high
  rw [Nat.zero_add] at a1 b1
  have hne : (G.wide != H.wide) = true ∨ ((G.wide != H.wide) = false ∧ (G.high != H.high) = true) := by
    unfold sameE at he
    cases h1 : (G.wide == H.wide)
    · exact .inl (by simp [bne, h1])
    · rw [h1] at he
      simp only [Bool.true_and] at he
      exact .inr ⟨by simp [bne, h1], by simp [bne, he]⟩
  clear he
  rcases hne with e0 | ⟨e0, e1⟩
  · go_upto_region 4 with (fail)
    clear a0 a1 b0 b1 e0
    have q2 := Q1.out.below Hb2.out hl2
    have t2 := q2.there
    have c2 := kc C1.out hl3 _ Hb2.out
    have f2 : V2.frozen? ⟨w.heap.size + 1 + 1 + 1, 0, none⟩ = false := ((Hb2.out).frozen (p := ⟨w.heap.size + 1 + 1 + 1, 0, none⟩) hl3).trans F1.out
    obtain ⟨X, hX, x1, x2, x3, x4, x5, x6, x7⟩ := stored_row (g := zf) q2 (c := w.heap.size + 1 + 1 + 1) (by omega)
    have cX := x2 _ c2
    have fX := x3.trans f2
    have BX := Lib.hid (x6 w.heap.size w (by omega) (HB.out.trans ((Hb2.out).mono (by omega))))
    have X1 := Lib.hid x1
    have HX := Lib.hid hX
    clear q2 c2 f2 x1 x2 x3 x4 x5 x6 x7 hX
    go_wp2_with (first | (refine st_stage 30 rfl ?_; refine wpList_store_mid rfl 30 _ _ rfl _ 0 (Fld (zf)) rfl rfl (by rw [Fld_size]; with_reducible exact t2) (by rw [Fld_size]; exact infoField) (Fld_one _) ?_); rw [HX.out])
    refine bodyPost_ret (results_fld_int rfl _ _ _ _ _ _ rfl rfl (X1.out.far _ _ (by omega)).range (World.cell?_setCell_same' _ _ _ (by rw [cX]; rfl)) Tryd.underlying30 rfl Tryd.underlying2 rfl infoField) rfl ⟨rfl, BX.out.setCell (by simp; omega) _⟩
  · go_upto_region 4 with (fail)
    clear a0 a1 b0 b1 e0 e1
    have q2 := Q1.out.below Hb2.out hl2
    have t2 := q2.there
    have c2 := kc C1.out hl3 _ Hb2.out
    have f2 : V2.frozen? ⟨w.heap.size + 1 + 1 + 1, 0, none⟩ = false := ((Hb2.out).frozen (p := ⟨w.heap.size + 1 + 1 + 1, 0, none⟩) hl3).trans F1.out
    obtain ⟨X, hX, x1, x2, x3, x4, x5, x6, x7⟩ := stored_row (g := zf) q2 (c := w.heap.size + 1 + 1 + 1) (by omega)
    have cX := x2 _ c2
    have fX := x3.trans f2
    have BX := Lib.hid (x6 w.heap.size w (by omega) (HB.out.trans ((Hb2.out).mono (by omega))))
    have X1 := Lib.hid x1
    have HX := Lib.hid hX
    clear q2 c2 f2 x1 x2 x3 x4 x5 x6 x7 hX
    go_wp2_with (first | (refine st_stage 30 rfl ?_; refine wpList_store_mid rfl 30 _ _ rfl _ 0 (Fld (zf)) rfl rfl (by rw [Fld_size]; with_reducible exact t2) (by rw [Fld_size]; exact infoField) (Fld_one _) ?_); rw [HX.out])
    refine bodyPost_ret (results_fld_int rfl _ _ _ _ _ _ rfl rfl (X1.out.far _ _ (by omega)).range (World.cell?_setCell_same' _ _ _ (by rw [cX]; rfl)) Tryd.underlying30 rfl Tryd.underlying2 rfl infoField) rfl ⟨rfl, BX.out.setCell (by simp; omega) _⟩

set_option maxRecDepth 100000 in
set_option maxHeartbeats 4000000 in
theorem implChg_good (G H : Gd) (w : World) (hG : GdOk G) (hH : GdOk H) (hT : TabAt w) (hv : validB G = true) (hv2 : validB H = true) (he : sameE G H = true) :
    Calls Tryd.prog 29 #[.agg (Grd G), .agg (Grd H)] w fun e w' => e = .returned (FN (chF G H) 0) ∧ Below w.heap.size w w' := by
  have hz := (zero_of_info zeroField).1
  have Hv := Lib.hid hv
  have Hv2 := Lib.hid hv2
  have HE := Lib.hid he
  have e0 : (G.wide != H.wide) = false := by
    unfold sameE at he
    simp only [Bool.and_eq_true] at he
    simp [bne, he.1]
  have e1 : (G.high != H.high) = false := by
    unfold sameE at he
    simp only [Bool.and_eq_true] at he
    simp [bne, he.2]
  clear hv hv2 he
  refine (callsIn_wide (n := 6)).1 (callsIn_of_wp_marks Tryd.func29 rfl trivial ?_ rfl)
  simp only [Tryd.ntmps29, List.size_toArray, List.length_cons, List.length_nil, Nat.reduceAdd, Nat.reduceSub, Array.replicate_succ, Array.replicate_zero, List.push_toArray, List.append_toArray, List.nil_append, List.cons_append]
  refine wpIn_wide.2 ?_
  go_upto_region 1 with (fail)
  obtain ⟨W, hW, hs, g1, g2, q1, c1, f1, hB⟩ := ggri_box G H zf 0 32 32 30 2 w
  rw [hW]
  clear hW
  have r1 := g1.range
  have hl0 : w.heap.size < W.heap.size := by omega
  have hl1 : w.heap.size + 1 < W.heap.size := by omega
  have hl2 : w.heap.size + 1 + 1 < W.heap.size := by omega
  have hl3 : w.heap.size + 1 + 1 + 1 < W.heap.size := by omega
  have G1 := Lib.hid g1
  have G2 := Lib.hid g2
  have Q1 := Lib.hid q1
  have C1 := Lib.hid c1
  have F1 := Lib.hid f1
  have HB := Lib.hid hB
  have HG := Lib.hid hG
  have HH := Lib.hid hH
  have glt := tab_lt hT
  have HT := Lib.hid (hT.below hB (tab_lt hT))
  clear hs g1 g2 q1 c1 f1 hB hG hH hT
  have tk : True := trivial
  go_upto_region 3 with (first | (refine ld_stage 32 rfl ?_; refine wpList_load_g (by kernel_rfl) 32 _ rfl (w.heap.size) 0 rfl (GrdL G) _ (by with_reducible exact r1) Tryd.underlying32 rfl (by rw [GrdL_length]; exact infoGround) ?_) | (refine ld_stage 32 rfl ?_; refine wpList_load_g (by kernel_rfl) 32 _ rfl (w.heap.size + 1) 0 rfl (GrdL H) _ (by with_reducible exact r2) Tryd.underlying32 rfl (by rw [GrdL_length]; exact infoGround) ?_) | (have _t := tk; go_at_call 67; have hc := (validGround_any G W HG.out HT.out (tab_lt HT.out)); rw [Hv.out] at hc; refine hc.mono ?_; clear hc; rintro e V ⟨rfl, hb⟩; have Hb := Lib.hid hb; have r2 := (G2.out.below hb hl1).range; clear hb tk) | (go_at_call 67; have hc := (validGround_any H V HH.out (HT.out.below Hb.out (tab_lt HT.out)) (by have := tab_lt HT.out; have := Hb.out.size; omega)); rw [Hv2.out] at hc; refine hc.mono ?_; clear hc; rintro e V2 ⟨rfl, hb2⟩; have Hb2 := Lib.hid (Hb.out.trans (hb2.mono Hb.out.size)); clear hb2))
  have zV := Hb2.out.size
  have P1 := Lib.hid (G1.out.below Hb2.out hl0)
  have P2 := Lib.hid (G2.out.below Hb2.out hl1)
  have P3 := Lib.hid (Q1.out.below Hb2.out hl2)
  have P4 := Lib.hid (kc C1.out hl3 _ Hb2.out)
  have P5 := Lib.hid ((Hb2.out.frozen (p := ⟨w.heap.size + 1 + 1 + 1, 0, none⟩) hl3).trans F1.out : V2.frozen? ⟨w.heap.size + 1 + 1 + 1, 0, none⟩ = false)
  have BV := Lib.hid (HB.out.trans (Hb2.out.mono (by omega)))
  have TV := Lib.hid (HT.out.below Hb2.out (tab_lt HT.out))
  clear r1 r2 G1 G2 Q1 C1 F1 HB HT Hb
  have a0 := P1.out.at'.wide; have a1 := P1.out.at'.high; have b0 := P2.out.at'.wide; have b1 := P2.out.at'.high
  rw [Nat.zero_add] at a1 b1
  go_upto_region 5 with (fail)
  clear a0 a1 b0 b1 e0 e1
  have hth := new_thereF 30 V2
  go_upto_region 6 with (refine st_stage 30 rfl ?_; refine wpList_store_mid rfl 30 _ _ rfl _ 0 (Fld (zf)) rfl rfl (by rw [Fld_size]; with_reducible exact hth) (by rw [Fld_size]; exact infoField) (Fld_one _) ?_)
  obtain ⟨X, hX, zX, gX, bX⟩ := stored_fld zf 30 V2
  have tX : X.there V2.heap.size 0 64 := by
    rw [← hX]
    exact there_setCells (new_thereF _ V2)
  rw [hX]
  have X1 := Lib.hid (P1.out.below bX (by omega))
  have X2 := Lib.hid (P2.out.below bX (by omega))
  have X3 := Lib.hid (P3.out.below bX (by omega))
  have X4 := Lib.hid (kc P4.out (by omega) _ bX)
  have X5 := Lib.hid ((bX.frozen (p := ⟨w.heap.size + 1 + 1 + 1, 0, none⟩) (by simp; omega)).trans P5.out : X.frozen? ⟨w.heap.size + 1 + 1 + 1, 0, none⟩ = false)
  have X6 := Lib.hid (⟨gX, tX⟩ : RowAt X V2.heap.size zf)
  have BX := Lib.hid (BV.out.trans (bX.mono (by omega)))
  have TX := Lib.hid (TV.out.below bX (tab_lt TV.out))
  have hNX : V2.heap.size < X.heap.size := X6.out.lt
  obtain ⟨N, hN⟩ : ∃ N, V2.heap.size = N := ⟨_, rfl⟩
  rw [hN] at X6 hNX zV ⊢
  clear hX hth gX bX tX zX hN P1 P2 P3 P4 P5 BV TV Hb2
  have m64 := cellsN_lt G
  go_wp2_with (first | (go_at_call 70; refine (cells_valid G Hv.out _ _ X1.out.at').mono ?_; rintro e w' ⟨rfl, rfl⟩) | (go_at_call 58; refine (bitsIn_any (cellsN G) _).mono ?_; rintro e w' ⟨rfl, rfl⟩))
  obtain ⟨U, hU⟩ : ∃ U, X.alloc (.cells #[.int .u64 (cellsN G)] 25) = U := ⟨_, rfl⟩
  have hbU : Below X.heap.size X U := by rw [← hU]; exact (Below.refl _ _).alloc (Nat.le_refl _) _
  have cM : U.cell? ⟨X.heap.size, 0, none⟩ = some (.int .u64 (cellsN G)) := by rw [← hU]; exact cell_of_row _ _ 0 _ _ _ (heap_alloc_last X _)
  have zU : X.heap.size < U.heap.size := by rw [← hU]; simp
  have U1 := Lib.hid (X1.out.below hbU (by omega))
  have U2 := Lib.hid (X2.out.below hbU (by omega))
  have u3 := X3.out.below hbU (by omega)
  have u4 := kc X4.out (by omega) _ hbU
  have u5 : U.frozen? ⟨w.heap.size + 1 + 1 + 1, 0, none⟩ = false := (hbU.frozen (p := ⟨w.heap.size + 1 + 1 + 1, 0, none⟩) (by simp; omega)).trans X5.out
  have u6 := X6.out.below hbU hNX
  have BU := Lib.hid (BX.out.trans (hbU.mono (by omega)))
  have TU := TX.out.below hbU (tab_lt TX.out)
  rw [hU]
  clear hU hbU X1 X2 X3 X4 X5 X6 BX TX
  refine (wpIn_wide (n := 6)).1 (wp_bits 32 33 7 X.heap.size (w.heap.size + 1 + 1) (cellsN G) m64 rfl cM TU (by omega) (by omega)
    (fun pre W2 => RowAt W2 N (fillF (chF G H) pre) ∧ RowAt W2 (w.heap.size + 1 + 1) zf ∧ W2.cell? ⟨w.heap.size + 1 + 1 + 1, 0, none⟩ = some (.int .i64 0) ∧ W2.frozen? ⟨w.heap.size + 1 + 1 + 1, 0, none⟩ = false)
    (fun _ _ _ => False)
    (fun s A B h ⟨a1, a2, a3, a4⟩ => ⟨h.row a1, h.row a2, h.cell a3, (h.frozen a3).trans a4⟩) (fun _ _ _ _ _ h => h)
    ⟨RowAt.congr u6 (fillF_nil (chF G H)), u3, u4, u5⟩ ?assign ?body ?done ?stop)
  case assign =>
    intro l x W K hK
    simp only [List.setIfInBounds_toArray, List.set_cons_zero, List.set_cons_succ] at hK ⊢
    gi_wp2
    exact hK
  case body =>
    rintro l pre x W2 ⟨a1, a2, a3, a4⟩ hB2 hbit hx64
    simp only [List.setIfInBounds_toArray, List.set_cons_zero, List.set_cons_succ]
    have hi : isB G x.1 = true := by have := hbit; rw [cellsN_testBit] at this; simp at this; exact this.2
    have hhG := (U1.out.below hB2 (by omega)).at'.h
    have hhH := (U2.out.below hB2 (by omega)).at'.h
    rw [Nat.zero_add] at hhG hhH
    have cG := Grd_fld hhG x.1 hx64
    have cH := Grd_fld hhH x.1 hx64
    have hx2 : (x.1 : Int) < 64 := by omega
    have A1 := Lib.hid a1
    have A2 := Lib.hid a2
    have A3 := Lib.hid a3
    have A4 := Lib.hid a4
    have HI := Lib.hid hi
    have HB2 := Lib.hid hB2
    have hzB := hB2.size
    clear a1 a2 a3 a4 hi hB2 hbit u3 u4 u5 u6 cM TU hhG hhH
    gi_upto_region 8 with (fail)
    refine wpIn_region_calm (ops' := regOf Tryd.f29 8) [0, 1, 2, 3, 4, 5, 6, 7, 8, 9, 10] [11] (.run 11 .fin) (Quiet W2) [(0, One (.int .i64 (x.1 : Int))), (1, One (.int .i64 (x.1 : Int))), (2, One (.pointer (some ⟨(w.heap.size + 1), 130, none⟩))), (3, One (.pointer (some ⟨(w.heap.size + 1), 130 + x.1, none⟩))), (4, One (.float .f32 (H.h x.1))), (5, One (.int .i64 (x.1 : Int))), (6, One (.pointer (some ⟨w.heap.size, 130, none⟩))), (7, One (.pointer (some ⟨w.heap.size, 130 + x.1, none⟩))), (8, One (.float .f32 (G.h x.1))), (9, Numv .f32 (fop .f32 .sub (num .f32 (H.h x.1)) (num .f32 (G.h x.1)))), (10, One (.pointer (some ⟨N, 0 + x.1, none⟩)))] (by kernel_rfl) (by kernel_rfl) (by kernel_rfl) (by kernel_rfl) (by kernel_rfl) (by kernel_rfl) (by kernel_rfl) (by kernel_rfl) (by kernel_rfl) rfl ((Quiet.refl _).drewN 1) ?_
    refine calm_pure (some 34) (by kernel_rfl) (by kernel_rfl) (by kernel_rfl) (fun _ => by kernel_rfl) ?_
    refine calm_pure (some 35) (by kernel_rfl) (by kernel_rfl) (by kernel_rfl) (fun _ => by kernel_rfl) ?_
    refine calm_pure (some 36) (by kernel_rfl) (by kernel_rfl) (by kernel_rfl) (fun _ => by kernel_rfl) ?_
    refine calm_pure (some 37) (by kernel_rfl) (by kernel_rfl) (by kernel_rfl) (index_fld (x := .tmp 36) (y := .tmp 35) (o := 130) (by kernel_rfl) (by kernel_rfl) (by kernel_rfl) hx64) ?_
    refine calm_read (some 38) (by kernel_rfl) (by kernel_rfl) (by kernel_rfl) (fun w' hw' => load_cell (ty := 23) (x := .tmp 37) (b := (w.heap.size + 1)) (o := 130 + x.1) (by kernel_rfl) (by kernel_rfl) Tryd.underlying23 rfl (kq cH w' hw')) ?_
    refine calm_pure (some 39) (by kernel_rfl) (by kernel_rfl) (by kernel_rfl) (fun _ => by kernel_rfl) ?_
    refine calm_pure (some 40) (by kernel_rfl) (by kernel_rfl) (by kernel_rfl) (fun _ => by kernel_rfl) ?_
    refine calm_pure (some 41) (by kernel_rfl) (by kernel_rfl) (by kernel_rfl) (index_fld (x := .tmp 40) (y := .tmp 39) (o := 130) (by kernel_rfl) (by kernel_rfl) (by kernel_rfl) hx64) ?_
    refine calm_read (some 42) (by kernel_rfl) (by kernel_rfl) (by kernel_rfl) (fun w' hw' => load_cell (ty := 23) (x := .tmp 41) (b := w.heap.size) (o := 130 + x.1) (by kernel_rfl) (by kernel_rfl) Tryd.underlying23 rfl (kq cG w' hw')) ?_
    refine calm_float (some 43) .f32 .sub 23 23 (.tmp 38) (.tmp 42) ((H.h x.1)) ((G.h x.1)) (by kernel_rfl) (by kernel_rfl) (by kernel_rfl) (by kernel_rfl) rfl (by kernel_rfl) (by kernel_rfl) (fun _ n h => h.drewN n) (rfl) ?_
    intro r43 hr43
    refine calm_pure (some 44) (by kernel_rfl) (by kernel_rfl) (by kernel_rfl) (index_fld (x := .tmp 6) (y := .tmp 34) (o := 0) (by kernel_rfl) (by kernel_rfl) (by kernel_rfl) hx64) ?_
    refine calm_end fun w' hw' => plan_do none undef (w'.setCell ⟨N, 0 + x.1, none⟩ (.float .f32 r43)) (by kernel_rfl) (by kernel_rfl) (by kernel_rfl) (.inr ⟨store_f32 (x := .tmp 44) (y := .tmp 43) (by kernel_rfl) (by kernel_rfl) (by kernel_rfl) infoF32 (u := .float .f32 (fillF (chF G H) (nos pre) x.1)) (by rw [Nat.zero_add]; exact (A1.out.quiet hw').cell x.1 hx64) (by rw [Nat.zero_add]; exact (A1.out.quiet hw').free x.1 hx64), rfl⟩) trivial (plan_end (Clean.normal ?_))
    rw [Nat.zero_add]
    have hr := chF_is Hv.out Hv2.out HE.out hx64 HI.out hr43
    obtain ⟨Y, hY⟩ : ∃ Y, w'.setCell ⟨N, x.1, none⟩ (.float .f32 r43) = Y := ⟨_, rfl⟩
    have y1 := (A1.out.quiet hw').put x.1 r43 hx64
    have y2 := (A2.out.quiet hw').far (b' := N) x.1 (.float .f32 r43) (by omega)
    have y3 : (w'.setCell ⟨N, x.1, none⟩ (.float .f32 r43)).cell? ⟨w.heap.size + 1 + 1 + 1, 0, none⟩ = some (.int .i64 0) := (cell_other (fun e => by injection e; omega)).trans (kq A3.out _ hw')
    have y4 : (w'.setCell ⟨N, x.1, none⟩ (.float .f32 r43)).frozen? ⟨w.heap.size + 1 + 1 + 1, 0, none⟩ = false := by rw [World.frozen?_setCell]; obtain ⟨n, rfl⟩ := hw'; exact A4.out
    have y5 : KeepsOthers W2 (w'.setCell ⟨N, x.1, none⟩ (.float .f32 r43)) := (KeepsOthers.of_below' (hw'.below _)).trans (KeepsOthers.setCell _ _ _)
    have y6 : Below (w.heap.size + 1 + 1) W2 (w'.setCell ⟨N, x.1, none⟩ (.float .f32 r43)) := (hw'.below _).setCell (p := ⟨N, x.1, none⟩) (by simp; omega) _
    rw [hY] at y1 y2 y3 y4 y5 y6 ⊢
    have cY := y1.cell x.1 hx64
    rw [if_pos rfl] at cY
    have Y1 := Lib.hid (RowAt.congr y1 (fillF_put (chF G H) (nos pre) x.1 r43 hr.1))
    have Y2 := Lib.hid y2
    have Y3 := Lib.hid y3
    have Y4 := Lib.hid y4
    have Y5 := Lib.hid y5
    have Y6 := Lib.hid y6
    have HF := Lib.hid hr.2
    clear hY y1 y2 y3 y4 y5 y6 hr hr43 cG cH hw'
    simp only [Act.put, List.setIfInBounds_toArray, List.set_cons_zero, List.set_cons_succ]
    gi_wp2_with (refine ⟨trivial, ?_⟩; gi_at_call 71; refine CallsIn.inRound l ((callsIn_wide (n := 3)).2 ((isFinite_is r43 _ HF.out Y).mono ?_)); rintro e Y' ⟨rfl, hq⟩; have YQ := Lib.hid hq; clear hq)
    have k2 : Below (w.heap.size + 1 + 1) W2 Y' := Y6.out.trans (YQ.out.below _)
    exact ⟨Y5.out.trans (KeepsOthers.of_below' (YQ.out.below _)), k2, ⟨by rw [nos_snoc]; exact Y1.out.quiet YQ.out, Y2.out.quiet YQ.out, kq Y3.out _ YQ.out, (by obtain ⟨n, rfl⟩ := YQ.out; exact Y4.out)⟩, HB2.out.trans k2⟩
  case done =>
    rintro D W2 hD ⟨a1, a2, a3, a4⟩ hB2 hK
    have rr := (RowAt.congr a1 (fun i hi => by
      unfold fillF
      have e : i ∈ bitsL (cellsN G) ↔ isB G i = true := by rw [mem_bitsL, cellsN_testBit]; simp [hi]
      cases hb : isB G i
      · rw [if_neg (by rw [e, hb]; simp)]; simp [chF, hb]
      · rw [if_pos (by rw [e, hb])] : ∀ i, i < 64 → fillF (chF G H) (bitsL (cellsN G)) i = chF G H i)).range
    have t2 := a2.there
    have hND : D ≠ w.heap.size + 1 + 1 := by omega
    have hCD : D ≠ w.heap.size + 1 + 1 + 1 := by omega
    have hwD : w.heap.size ≤ D := by omega
    obtain ⟨Z, hZ, z1, z2, z3, z4, z5, z6, z7⟩ := stored_row (g := chF G H) a2 (c := w.heap.size + 1 + 1 + 1) (by omega)
    have z2' := z2 _ a3
    have z3' := z3.trans a4
    have HZ := Lib.hid hZ
    have Z1 := Lib.hid (z1.far (b' := w.heap.size + 1 + 1 + 1) 0 (.int .i64 0) (by omega))
    have Z6 := Lib.hid ((z6 w.heap.size w (by omega) (BU.out.trans (hB2.mono (by omega)))).setCell (p := ⟨w.heap.size + 1 + 1 + 1, 0, none⟩) (by simp; omega) (.int .i64 0))
    have Z7 := Lib.hid ((Below.heap_setCell Z ⟨w.heap.size + 1 + 1 + 1, 0, none⟩ (.int .i64 0) D (by simpa using hCD)).trans (z7 D _ hND hK))
    have Z8 := Lib.hid (World.cell?_setCell_same' Z ⟨w.heap.size + 1 + 1 + 1, 0, none⟩ (.int .i64 0) (by rw [z2']; rfl))
    clear hZ z1 z2 z3 z4 z5 z6 z7 a1 a2 a3 a4 u3 u4 u5 u6 cM TU hB2 hK hD hl0 hl1 hl2 hl3 zV
    go_wp2_with (first | (refine ld_stage 30 rfl ?_; refine wpList_load_mid rfl 30 _ rfl (N) 0 rfl (Fld (chF G H)).toList _ rr Tryd.underlying30 rfl (by rw [Fld_length]; exact infoField) ?_) | (refine st_stage 30 rfl ?_; refine wpList_store_mid rfl 30 _ _ rfl _ 0 (Fld (chF G H)) rfl rfl (by rw [Fld_size]; with_reducible exact t2) (by rw [Fld_size]; exact infoField) (Fld_one _) ?_); rw [HZ.out])
    exact ret_marks Z7.out (fun W' h => results_fld_int rfl _ _ _ _ _ _ rfl rfl (h.row Z1.out).range (h.cell Z8.out) Tryd.underlying30 rfl Tryd.underlying2 rfl infoField) (fun W' _ hb => ⟨rfl, Z6.out.trans (hb _ hwD)⟩)
  case stop =>
    rintro D c pre W _ _ h _ _
    exact h.elim

theorem implChanges_any (G H : Gd) (w : World) (hG : GdOk G) (hH : GdOk H) (hT : TabAt w) :
    Calls Tryd.prog 29 #[.agg (Grd G), .agg (Grd H)] w fun e w' => e = .returned (chV G H) ∧ Below w.heap.size w w' := by
  cases hv : validB G
  · rw [show chV G H = FN zf 1 by simp [chV, hv]]
    exact implChg_bad1 G H w hG hH hT hv
  · cases hv2 : validB H
    · rw [show chV G H = FN zf 1 by simp [chV, hv2]]
      exact implChg_bad2 G H w hG hH hT hv hv2
    · cases he : sameE G H
      · rw [show chV G H = FN zf 4 by simp [chV, hv, hv2, he]]
        exact implChg_bad3 G H w hG hH hT hv hv2 he
      · rw [show chV G H = FN (chF G H) 0 by simp [chV, hv, hv2, he]]
        exact implChg_good G H w hG hH hT hv hv2 he
end Go.Proofs.YtdhnneidkdoplaaDoor
