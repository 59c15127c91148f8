/- WarmUp: the program's. Condition: the table of math/bits is laid. -/
import Derived.Test.YtdhnneidkdoplaaDoorWarmS
import Derived.Test.YtdhnneidkdoplaaDoorFree
namespace Go.Proofs.YtdhnneidkdoplaaDoor
open Go.RowKit Go.Shelf
attribute [local go_sem] Oper.semAt_some run_store_float
set_option linter.unusedSimpArgs false
set_option linter.unusedVariables false

/-- A ground, a number and a ground are boxed. -/
theorem gfg_box (G H : Gd) (h : Nat) (t u v : TypeId) (w : World) : ∃ W, ((w.alloc (.cells (Grd G) t)).alloc (.cells #[.float .f32 h] u)).alloc (.cells (Grd H) v) = W ∧ W.heap.size = w.heap.size + 1 + 1 + 1 ∧ GBox W w.heap.size G ∧ W.cell? ⟨w.heap.size + 1, 0, none⟩ = some (.float .f32 h) ∧ GBox W (w.heap.size + 1 + 1) H ∧ Below w.heap.size w W := by
  obtain ⟨W1, h1, z1, g1, b1⟩ := gbox1 G t w
  rw [h1]
  obtain ⟨W2, h2⟩ : ∃ W2, W1.alloc (.cells #[.float .f32 h] u) = W2 := ⟨_, rfl⟩
  have z2 : W2.heap.size = w.heap.size + 1 + 1 := by rw [← h2]; simp [z1]
  have b2 : Below W1.heap.size W1 W2 := by rw [← h2]; exact (Below.refl _ _).alloc (Nat.le_refl _) _
  have c2 : W2.cell? ⟨w.heap.size + 1, 0, none⟩ = some (.float .f32 h) := by rw [← h2, ← z1]; exact cell_of_row _ _ 0 _ _ _ (heap_alloc_last W1 _)
  rw [h2]
  obtain ⟨W3, h3, z3, g3, b3⟩ := gbox1 H v W2
  rw [z2] at g3
  exact ⟨W3, h3, by rw [z3, z2], (g1.below b2 (by omega)).below b3 (by omega), kc c2 (by omega) _ b3, g3, b1.trans ((b2.mono (by omega)).trans (b3.mono (by omega)))⟩

set_option maxRecDepth 100000 in
set_option maxHeartbeats 2000000 in
theorem implWarm_bad (G : Gd) (h : Nat) (w : World) (hG : GdOk G) (hT : TabAt w) (hb : warmN G h ≠ 0) :
    Calls Tryd.prog 26 #[.agg (Grd G), .float .f32 h] w fun e w' => e = .returned (GN zG (warmN G h)) ∧ Below w.heap.size w w' := by
  have hz := (zero_of_info zeroGround).1
  go_enter Tryd.func26, Tryd.ntmps26
  go_upto_region 1 with (fail)
  obtain ⟨W, hW, hs, g1, c1, g2, hB⟩ := gfg_box G zG h 32 23 32 w
  rw [hW]
  clear hW
  have r1 := g1.range
  have hl : w.heap.size + 1 < W.heap.size := by omega
  have hl2 : w.heap.size + 1 + 1 < W.heap.size := by omega
  have HB := Lib.hid hB
  have HG := Lib.hid hG
  have HT := Lib.hid (hT.below hB (tab_lt hT))
  have G2 := Lib.hid g2
  clear hs g1 hB hG hT g2
  cases hv : validB G
  · have Hv := Lib.hid hv
    have R1 := Lib.hid (show warmN G h = 1 by simp [warmN, hv])
    clear hv
    go_upto_region 2 with (first | (refine ld_stage 32 rfl ?_; refine wpList_load_mid rfl 32 _ rfl (w.heap.size) 0 rfl (GrdL (G)) _ r1 Tryd.underlying32 rfl (by rw [GrdL_length]; exact infoGround) ?_) | (go_at_call 67; have hc := (validGround_any G W HG.out HT.out (tab_lt HT.out)); rw [Hv.out] at hc; refine hc.mono ?_; clear hc; rintro e V ⟨rfl, hb1⟩))
    have P2 := Lib.hid (G2.out.below hb1 hl2)
    have B1 := Lib.hid (HB.out.trans (hb1.mono (by omega)))
    have tt := P2.out.there
    clear r1 c1 hb1 hb
    go_wp2_with (refine st_stage 32 rfl ?_; refine wpList_store_mid rfl 32 _ _ rfl _ 0 (Grd (zG)) rfl rfl (by rw [Grd_size]; with_reducible exact tt) (by rw [Grd_size]; exact infoGround) (Grd_one _) ?_)
    refine bodyPost_ret (ret_GN rfl rfl rfl P2.out.store.range) rfl ⟨by rw [R1.out], below_setCells _ (by omega) _ _ _ B1.out⟩
  · have hp : plainB h = false := by
      cases hp : plainB h
      · rfl
      · exact absurd (by simp [warmN, hv, hp]) hb
    have Hv := Lib.hid hv
    have Hp := Lib.hid hp
    have R1 := Lib.hid (show warmN G h = 2 by simp [warmN, hv, hp])
    clear hv hp hb
    go_upto_region 3 with (first | (refine ld_stage 32 rfl ?_; refine wpList_load_mid rfl 32 _ rfl (w.heap.size) 0 rfl (GrdL (G)) _ r1 Tryd.underlying32 rfl (by rw [GrdL_length]; exact infoGround) ?_) | (go_at_call 67; have hc := (validGround_any G W HG.out HT.out (tab_lt HT.out)); rw [Hv.out] at hc; refine hc.mono ?_; clear hc; rintro e V ⟨rfl, hb1⟩))
    have P2 := Lib.hid (G2.out.below hb1 hl2)
    have B1 := Lib.hid (HB.out.trans (hb1.mono (by omega)))
    have tt := P2.out.there
    have c2 := kc c1 hl _ hb1
    clear r1 c1 hb1
    go_wp2_with (first | (refine st_stage 32 rfl ?_; refine wpList_store_mid rfl 32 _ _ rfl _ 0 (Grd (zG)) rfl rfl (by rw [Grd_size]; with_reducible exact tt) (by rw [Grd_size]; exact infoGround) (Grd_one _) ?_) | (go_at_call 68; refine (isPlain_is h false Hp.out _).mono ?_; rintro e w' ⟨rfl, rfl⟩))
    refine bodyPost_ret (ret_GN rfl rfl rfl P2.out.store.range) rfl ⟨by rw [R1.out], below_setCells _ (by omega) _ _ _ B1.out⟩

set_option maxRecDepth 100000 in
set_option maxHeartbeats 4000000 in
theorem implWarm_good (G : Gd) (h : Nat) (w : World) (hG : GdOk G) (hT : TabAt w) (hv : validB G = true) (hp : plainB h = true) :
    Calls Tryd.prog 26 #[.agg (Grd G), .float .f32 h] w fun e w' => e = .returned (GN (wrm G h (frTo G 64)) 0) ∧ Below w.heap.size w w' := by
  have hz := (zero_of_info zeroGround).1
  obtain ⟨_, mm64, hmt⟩ := freeN_is hG
  have HFR := Lib.hid (fun (p : Nat) (V : World) (h : GrdAt V p 0 G) => free_any G hv p V h hG)
  obtain ⟨mm, hmm⟩ : ∃ mm, freeN G = mm := ⟨_, rfl⟩
  rw [hmm] at mm64 hmt HFR
  have HL := Lib.hid (show bitsL mm = frTo G 64 from by
    unfold bitsL frTo
    refine List.filter_congr fun i hi => ?_
    have hi' : i < 64 := by simpa using hi
    rw [hmt i hi']; rfl)
  clear hmt hmm
  refine (callsIn_wide (n := 6)).1 (callsIn_of_wp_marks Tryd.func26 rfl trivial ?_ rfl)
  simp only [Tryd.ntmps26, List.size_toArray, List.length_cons, List.length_nil, Nat.reduceAdd, Nat.reduceSub, Array.replicate_succ, Array.replicate_zero, List.push_toArray, List.append_toArray, List.nil_append, List.cons_append]
  refine wpIn_wide.2 ?_
  go_upto_region 1 with (fail)
  obtain ⟨W, hW, hs, g1, c1, g2, hB⟩ := gfg_box G zG h 32 23 32 w
  rw [hW]
  clear hW
  have r1 := g1.range
  have hl0 : w.heap.size < W.heap.size := by omega
  have hl : w.heap.size + 1 < W.heap.size := by omega
  have hl2 : w.heap.size + 1 + 1 < W.heap.size := by omega
  have G1 := Lib.hid g1
  have HB := Lib.hid hB
  have HG := Lib.hid hG
  have HT := Lib.hid (hT.below hB (tab_lt hT))
  have glt := tab_lt hT
  have G2 := Lib.hid g2
  have Hv := Lib.hid hv
  have Hp := Lib.hid hp
  clear hs g1 hB hG hT g2 hv hp
  go_upto_region 3 with (first | (refine ld_stage 32 rfl ?_; refine wpList_load_mid rfl 32 _ rfl (w.heap.size) 0 rfl (GrdL (G)) _ r1 Tryd.underlying32 rfl (by rw [GrdL_length]; exact infoGround) ?_) | (go_at_call 67; have hc := (validGround_any G W HG.out HT.out (tab_lt HT.out)); rw [Hv.out] at hc; refine hc.mono ?_; clear hc; rintro e V ⟨rfl, hb1⟩))
  have zV := hb1.size
  have P1 := Lib.hid (G1.out.below hb1 hl0)
  have P2 := Lib.hid (G2.out.below hb1 hl2)
  have BV := Lib.hid (HB.out.trans (hb1.mono (by omega)))
  have TV := Lib.hid (HT.out.below hb1 (tab_lt HT.out))
  have c2 := kc c1 hl _ hb1
  clear r1 c1 hb1 G1 G2 HB HT
  go_upto_region 5 with (go_at_call 68; refine (isPlain_is h true Hp.out _).mono ?_; rintro e w' ⟨rfl, rfl⟩)
  go_wp2_with (first | (go_at_call 56; refine (HFR.out _ _ P1.out.at').mono ?_; rintro e w' ⟨rfl, hw'⟩) | (go_at_call 58; refine (bitsIn_any mm _).mono ?_; rintro e w2 ⟨rfl, rfl⟩))
  obtain ⟨U, hU⟩ : ∃ U, w'.alloc (.cells #[.int .u64 (mm : Int)] 25) = U := ⟨_, rfl⟩
  have hbU0 : Below w'.heap.size w' U := by rw [← hU]; exact (Below.refl _ _).alloc (Nat.le_refl _) _
  have cM : U.cell? ⟨w'.heap.size, 0, none⟩ = some (.int .u64 mm) := by rw [← hU]; exact cell_of_row _ _ 0 _ _ _ (heap_alloc_last w' _)
  have zw : w'.heap.size = V.heap.size := hw'.size
  have hbU : Below V.heap.size V U := (hw'.below _).trans (hbU0.mono (by omega))
  have zU : V.heap.size < U.heap.size := by have : w'.heap.size < U.heap.size := (by rw [← hU]; simp); omega
  rw [hU]
  rw [zw] at cM ⊢
  have u1 := P1.out.below hbU (by omega)
  have u2 := P2.out.below hbU (by omega)
  have u3 := kc c2 (by omega) _ hbU
  have BU := Lib.hid (BV.out.trans (hbU.mono (by omega)))
  have TU := TV.out.below hbU (tab_lt TV.out)
  clear hU hbU0 hbU hw' zw P1 P2 c2 BV TV
  try simp only [Act.put, List.setIfInBounds_toArray, List.set_cons_zero, List.set_cons_succ]
  go_upto_region 6 with (fail)
  refine (wpIn_wide (n := 6)).1 (wp_bits 16 17 6 V.heap.size w.heap.size mm mm64 rfl cM TU glt (by omega)
    (fun pre W2 => GBox W2 w.heap.size (wrm G h pre) ∧ GBox W2 (w.heap.size + 1 + 1) zG ∧ W2.cell? ⟨w.heap.size + 1, 0, none⟩ = some (.float .f32 h))
    (fun _ _ _ => False)
    (fun s A B hc ⟨h1, h2, h3⟩ => ⟨hc.box h1, hc.box h2, hc.cell h3⟩) (fun _ _ _ _ _ h => h) ⟨by rw [wrm_nil]; exact u1, u2, u3⟩ ?assign ?body ?done ?stop)
  case assign =>
    intro l x W K hK
    simp only [List.setIfInBounds_toArray, List.set_cons_zero, List.set_cons_succ] at hK ⊢
    gi_wp2
    exact hK
  case body =>
    rintro l pre x W2 ⟨h1, h2, h3⟩ hB2 _ hx64
    simp only [List.setIfInBounds_toArray, List.set_cons_zero, List.set_cons_succ]
    have hx2 : (x.1 : Int) < 64 := by omega
    have b0 := h1.at_some (130 + x.1) (by omega)
    obtain ⟨u, hu⟩ := Option.isSome_iff_exists.1 b0
    have f0 := h1.free (130 + x.1) (by omega)
    have Qa := Lib.hid (show GBox (W2.setCell ⟨w.heap.size, 130 + x.1, none⟩ (.float .f32 h)) w.heap.size (wrm G h (nos (pre ++ [x]))) by rw [nos_snoc, ← wrm_snoc]; exact h1.putH hx64)
    have Qb := Lib.hid (h2.far (b' := w.heap.size) (k := 130 + x.1) (v := .float .f32 h) (by omega))
    have Qc := Lib.hid (show (W2.setCell ⟨w.heap.size, 130 + x.1, none⟩ (.float .f32 h)).cell? ⟨w.heap.size + 1, 0, none⟩ = some (.float .f32 h) from (cell_other (fun e => by injection e; omega)).trans h3)
    have k2 := Lib.hid ((Below.refl w.heap.size W2).setCell (p := ⟨w.heap.size, 130 + x.1, none⟩) (Nat.le_refl _) (.float .f32 h))
    have HB2 := Lib.hid hB2
    clear h1 h2 b0 hB2
    gi_wp2
    exact ⟨KeepsOthers.setCell _ _ _, k2.out, ⟨Qa.out, Qb.out, Qc.out⟩, HB2.out.trans k2.out⟩
  case done =>
    rintro D W2 hD ⟨h1, h2, h3⟩ hB2 hK
    have rr := h1.range
    have tt := h2.there
    have HB3 := Lib.hid (BU.out.trans (hB2.mono (by omega)))
    have hwD : w.heap.size ≤ D := by omega
    have hRD : D ≠ w.heap.size + 1 + 1 := by omega
    have S2 := Lib.hid (h2.store (H := wrm G h (bitsL mm)))
    have K2 := Lib.hid ((heap_setCells_other (Grd (wrm G h (bitsL mm))).toList hRD).trans hK : (W2.setCells (w.heap.size + 1 + 1) 0 (Grd (wrm G h (bitsL mm))).toList).heap[D]? = _)
    clear h1 h2 h3 u1 u2 u3 cM TU hB2 hD hK
    go_wp2_with (first | (refine ld_stage 32 rfl ?_; refine wpList_load_mid rfl 32 _ rfl (w.heap.size) 0 rfl (GrdL (wrm G h (bitsL mm))) _ rr Tryd.underlying32 rfl (by rw [GrdL_length]; exact infoGround) ?_) | (refine st_stage 32 rfl ?_; refine wpList_store_mid rfl 32 _ _ rfl _ 0 (Grd (wrm G h (bitsL mm))) rfl rfl (by rw [Grd_size]; with_reducible exact tt) (by rw [Grd_size]; exact infoGround) (Grd_one _) ?_))
    exact ret_marks K2.out (fun W' hc => ret_GN rfl rfl rfl (hc.box S2.out).range) (fun W' _ hb => ⟨by rw [HL.out], (below_setCells _ (by omega) _ _ _ HB3.out).trans (hb _ hwD)⟩)
  case stop =>
    rintro D c pre W _ _ h _ _
    exact h.elim

theorem implWarm_any (G : Gd) (h : Nat) (w : World) (hG : GdOk G) (hT : TabAt w) :
    Calls Tryd.prog 26 #[.agg (Grd G), .float .f32 h] w fun e w' => e = .returned (GN (warmG G h) (warmN G h)) ∧ Below w.heap.size w w' := by
  by_cases hb : warmN G h = 0
  · have hv : validB G = true := by
      cases hv : validB G
      · simp [warmN, hv] at hb
      · rfl
    have hp : plainB h = true := by
      cases hp : plainB h
      · simp [warmN, hv, hp] at hb
      · rfl
    rw [show warmG G h = wrm G h (frTo G 64) by simp [warmG, hb], hb]
    exact implWarm_good G h w hG hT hv hp
  · rw [show warmG G h = zG by simp [warmG, hb]]
    exact implWarm_bad G h w hG hT hb
end Go.Proofs.YtdhnneidkdoplaaDoor
