/- A step of heads, the program's: seepage.after, attempt over a ground, behindStep. Condition: the table of math/bits is laid. -/
import Derived.Test.YtinepldaodadiaaDoorStp
import Derived.Test.YtinepldaodadiaaDoorSwA
namespace Go.Proofs.YtinepldaodadiaaDoor
open Go Go.RowKit Go.Shelf
attribute [local go_sem] Oper.semAt_some run_store_float
set_option linter.unusedSimpArgs false
set_option linter.unusedVariables false

/-- What plain panics with. -/
def notPl (b : Nat) : Value := .iface 99 (.float .f32 b)
set_option maxRecDepth 100000 in
theorem plain_yes (b : Nat) (w : World) (hp : plainB b = true) : Calls Tryd.prog 46 #[.float .f32 b] w fun e w' => e = .returned (.float .f32 b) ∧ w = w' := by
  go_enter Tryd.func46, Tryd.ntmps46
  go_wp2_with (go_at_call 43; refine (isPlain_is b true hp _).mono ?_; rintro e w' ⟨rfl, rfl⟩)
  go_ret
  exact ⟨rfl, rfl⟩
set_option maxRecDepth 100000 in
theorem plain_no (b : Nat) (w : World) (hp : plainB b = false) : Calls Tryd.prog 46 #[.float .f32 b] w fun e w' => e = .panicked [{ v := notPl b, recovered := false }] ∧ w' = w := by
  go_enter Tryd.func46, Tryd.ntmps46
  go_wp2_with (go_at_call 43; refine (isPlain_is b false hp _).mono ?_; rintro e w' ⟨rfl, rfl⟩)
  exact ⟨rfl, rfl, rfl⟩
/-- A number, a ground and a ground are boxed. -/
theorem fgg_box (G K : Gd) (h : Nat) (t u v : TypeId) (w : World) : ∃ W, ((w.alloc (.cells #[.float .f32 h] t)).alloc (.cells (Grd G) u)).alloc (.cells (Grd K) v) = W ∧ W.heap.size = w.heap.size + 1 + 1 + 1 ∧ W.cell? ⟨w.heap.size, 0, none⟩ = some (.float .f32 h) ∧ GBox W (w.heap.size + 1) G ∧ GBox W (w.heap.size + 1 + 1) K ∧ Below w.heap.size w W := by
  obtain ⟨W1, h1⟩ : ∃ W1, w.alloc (.cells #[.float .f32 h] t) = W1 := ⟨_, rfl⟩
  have z1 : W1.heap.size = w.heap.size + 1 := by rw [← h1]; simp
  have b1 : Below w.heap.size w W1 := by rw [← h1]; exact (Below.refl _ _).alloc (Nat.le_refl _) _
  have c1 : W1.cell? ⟨w.heap.size, 0, none⟩ = some (.float .f32 h) := by rw [← h1]; exact cell_of_row _ _ 0 _ _ _ (heap_alloc_last w _)
  rw [h1]
  obtain ⟨W2, h2, z2, g2, g3, b2⟩ := gbox2 G K u v W1
  rw [z1] at g2 g3
  exact ⟨W2, h2, by rw [z2, z1], kc c1 (by omega) _ b2, g2, g3, b1.trans (b2.mono (by omega))⟩

set_option maxRecDepth 100000 in
set_option maxHeartbeats 2000000 in
theorem after_nf (G : Gd) (part : Nat) (w : World) (hv : validB G = true) (hG : GdOk G) (hT : TabAt w) (ha : allFin G = false) :
    Calls Tryd.prog 34 #[.float .f32 part, .agg (Grd G)] w fun e w' => e = .returned (GN zG 4) ∧ Below w.heap.size w w' := by
  have hz := (zero_of_info zeroGround).1
  have hzf := (zero_of_info zeroField).1
  have HBV := Lib.hid (show balsV G = .tuple #[.agg (Fld zf), .int .i64 4] by simp [balsV, hv, ha, FN])
  go_enter Tryd.func34, Tryd.ntmps34
  go_upto_region 1 with (fail)
  obtain ⟨W, hW, zW, c1, g1, g2, hB⟩ := fgg_box G zG part 41 30 30 w
  rw [hW]
  clear hW
  have r1 := g1.range
  have G2 := Lib.hid g2
  have HB := Lib.hid hB
  have HG := Lib.hid hG
  have HT := Lib.hid (hT.below hB (tab_lt hT))
  clear g1 g2 hB hG hv ha hT c1
  go_wp2_with (first | (refine ld_stage 30 rfl ?_; refine wpList_load_mid rfl 30 _ rfl (w.heap.size + 1) 0 rfl (GrdL (G)) _ r1 Tryd.underlying30 rfl (by rw [GrdL_length]; exact infoGround) ?_) | (go_at_call 48; have hc := implBalances_any G _ HG.out HT.out; rw [HBV.out] at hc; refine hc.mono ?_; clear hc; rintro e V ⟨rfl, hb⟩; have SR := Lib.hid (G2.out.below hb (by omega)); have BV := Lib.hid (HB.out.trans (hb.mono (by omega))); have tF := new_thereF 28 V; clear hb) | (refine st_stage 28 rfl ?_; refine wpList_store_mid rfl 28 _ _ rfl _ 0 (Fld (zf)) rfl rfl (by rw [Fld_size]; with_reducible exact tF) (by rw [Fld_size]; exact infoField) (Fld_one _) ?_; obtain ⟨X, hX, zX, gX, bX⟩ := stored_fld zf 28 V; rw [hX]; have SX := Lib.hid (SR.out.below bX SR.out.lt); have BX := Lib.hid (BV.out.trans (bX.mono BV.out.size)); have tt := SX.out.there; clear hX tF zX gX bX) | (refine st_stage 30 rfl ?_; refine wpList_store_mid rfl 30 _ _ rfl _ 0 (Grd (zG)) rfl rfl (by rw [Grd_size]; with_reducible exact tt) (by rw [Grd_size]; exact infoGround) (Grd_one _) ?_))
  refine bodyPost_ret (ret_GN rfl rfl rfl SX.out.store.range) rfl ⟨rfl, below_setCells _ (by omega) _ _ _ BX.out⟩

/-- How seepage.after ends, where the balances are finite. -/
def AftP (G : Gd) (part : Nat) (w : World) (e : Ending) (w' : World) : Prop := Below w.heap.size w w' ∧ (((stpF G part).2.1 = true ∧ e = .returned (GN (stpF G part).1 0)) ∨ ((stpF G part).2.1 = false ∧ ∃ b, e = .panicked [{ v := notPl b, recovered := false }]))
theorem add_ex (x y : Nat) : ∃ r, num .f32 r = fop .f32 .add (num .f32 x) (num .f32 y) := fop_ex .f32 .add rfl _ _ (num_ex _ _) (num_ex _ _)
set_option maxRecDepth 100000 in
set_option maxHeartbeats 4000000 in
theorem after_fin (G : Gd) (part : Nat) (w : World) (hv : validB G = true) (hG : GdOk G) (hT : TabAt w) (ha : allFin G = true) :
    Calls Tryd.prog 34 #[.float .f32 part, .agg (Grd G)] w (AftP G part w) := by
  have hz := (zero_of_info zeroGround).1
  have hzf := (zero_of_info zeroField).1
  have HBV := Lib.hid (show balsV G = .tuple #[.agg (Fld (balF G)), .int .i64 0] by simp [balsV, hv, ha, FN])
  obtain ⟨_, mm64, hmt⟩ := freeN_is hG
  have HFR := Lib.hid (fun (p : Nat) (V : World) (h : GrdAt V p 0 G) => free_any G hv p V h hG)
  obtain ⟨mm, hmm⟩ : ∃ mm, freeN G = mm := ⟨_, rfl⟩
  rw [hmm] at mm64 hmt HFR
  have HL := Lib.hid (show bitsL mm = frTo G 64 from by
    unfold bitsL frTo
    refine List.filter_congr fun i hi => ?_
    have hi' : i < 64 := by simpa using hi
    rw [hmt i hi']; rfl)
  have HMT := Lib.hid (show ∀ i, i < 64 → mm.testBit i = true → isB G i = true ∧ G.x.toNat.testBit i = false from fun i hi h => by
    rw [hmt i hi] at h
    simpa [frB] using h)
  have HF := Lib.hid (stpF_free (p := part) hv)
  clear hmt hmm
  have HV := Lib.hid hv
  have HG := Lib.hid hG
  have glt := tab_lt hT
  have HT0 := Lib.hid hT
  clear hv hG hT ha
  refine (callsIn_wide (n := 6)).1 (calls_of_wpAt Tryd.func34 rfl ?_)
  simp only [Tryd.ntmps34, List.size_toArray, List.length_cons, List.length_nil, Nat.reduceAdd, Nat.reduceSub, Array.replicate_succ, Array.replicate_zero, List.push_toArray, List.append_toArray, List.nil_append, List.cons_append]
  refine WpAt.seq (WpAt.of_wp ?_)
  go_wp2
  refine WpAt.seq (WpAt.of_wp ?_)
  obtain ⟨W, hW, zW, c1, g1, g2, hB⟩ := fgg_box G zG part 41 30 30 w
  rw [hW]
  clear hW
  have r1 := g1.range
  have G1 := Lib.hid g1
  have G2 := Lib.hid g2
  have C1 := Lib.hid c1
  have HB := Lib.hid hB
  have HT := Lib.hid (HT0.out.below hB (tab_lt HT0.out))
  clear g1 g2 hB c1 HT0
  go_wp2_with (first | (refine ld_stage 30 rfl ?_; refine wpList_load_mid rfl 30 _ rfl (w.heap.size + 1) 0 rfl (GrdL (G)) _ r1 Tryd.underlying30 rfl (by rw [GrdL_length]; exact infoGround) ?_) | (go_at_call 48; have hc := implBalances_any G _ HG.out HT.out; rw [HBV.out] at hc; refine hc.mono ?_; clear hc; rintro e V ⟨rfl, hb⟩; have tF := new_thereF 28 V) | (refine st_stage 28 rfl ?_; refine wpList_store_mid rfl 28 _ _ rfl _ 0 (Fld (balF G)) rfl rfl (by rw [Fld_size]; with_reducible exact tF) (by rw [Fld_size]; exact infoField) (Fld_one _) ?_))
  obtain ⟨X, hX, zX, gX, bX⟩ := stored_fld (balF G) 28 V
  have tX : X.there V.heap.size 0 64 := by
    rw [← hX]
    exact there_setCells (new_thereF _ V)
  rw [hX]
  have zV := hb.size
  have k1 := hb.trans (bX.mono hb.size)
  obtain ⟨N, hN⟩ : ∃ N, V.heap.size = N := ⟨_, rfl⟩
  rw [hN] at gX tX zX zV ⊢
  have X1 := Lib.hid (G1.out.below k1 (by omega))
  have X2 := Lib.hid (G2.out.below k1 (by omega))
  have X3 := Lib.hid (⟨gX, tX⟩ : RowAt X N (balF G))
  have X4 := Lib.hid (kc C1.out (by omega) _ k1)
  have TX := Lib.hid (HT.out.below k1 (tab_lt HT.out))
  have BX := Lib.hid (HB.out.trans (k1.mono (by omega)))
  have hwN : w.heap.size + 1 + 1 < N := by omega
  have hNX : N < X.heap.size := by omega
  clear hX hb bX k1 gX tX hN tF zX zV zW G1 G2 C1 HT HB r1
  refine WpAt.seq (WpAt.of_wp ?_)
  go_wp2
  refine WpAt.seq (WpAt.seq (WpAt.of_wp ?_))
  go_wp2_with (first | (go_at_call 49; refine (HFR.out _ _ X1.out.at').mono ?_; rintro e w' ⟨rfl, hw'⟩) | (go_at_call 41; refine (bitsIn_any mm _).mono ?_; rintro e w2 ⟨rfl, rfl⟩))
  obtain ⟨U, hU⟩ : ∃ U, w'.alloc (.cells #[.int .u64 (mm : Int)] 25) = U := ⟨_, rfl⟩
  have hbU0 : Below w'.heap.size w' U := by rw [← hU]; exact (Below.refl _ _).alloc (Nat.le_refl _) _
  have cM : U.cell? ⟨w'.heap.size, 0, none⟩ = some (.int .u64 mm) := by rw [← hU]; exact cell_of_row _ _ 0 _ _ _ (heap_alloc_last w' _)
  have zw : w'.heap.size = X.heap.size := hw'.size
  have hbU : Below X.heap.size X U := (hw'.below _).trans (hbU0.mono (by omega))
  have zU : X.heap.size < U.heap.size := by have : w'.heap.size < U.heap.size := (by rw [← hU]; simp); omega
  rw [hU]
  rw [zw] at cM ⊢
  have u1 := X1.out.below hbU (by omega)
  have u2 := X2.out.below hbU (by omega)
  have u3 := X3.out.below hbU hNX
  have u4 := kc X4.out (by omega) _ hbU
  have BU := Lib.hid (BX.out.trans (hbU.mono (by omega)))
  have TU := TX.out.below hbU (tab_lt TX.out)
  clear hU hbU0 hbU hw' zw X1 X2 X3 X4 BX TX hz hzf
  try simp only [Act.put, List.setIfInBounds_toArray, List.set_cons_zero, List.set_cons_succ]
  refine WpAt.block (wp_bitsP (fn0 := Tryd.f34) rfl 20 21 8 X.heap.size w.heap.size mm mm64 rfl cM TU glt (by omega)
    (fun pre W2 => (swp (nxT G part) G pre).2.1 = true ∧ GBox W2 (w.heap.size + 1) (swp (nxT G part) G pre).1 ∧ GBox W2 (w.heap.size + 1 + 1) zG ∧ RowAt W2 N (balF G) ∧ W2.cell? ⟨w.heap.size, 0, none⟩ = some (.float .f32 part))
    (fun ch W2 => (∃ b, ch = [{ v := notPl b, recovered := false }]) ∧ (stpF G part).2.1 = false ∧ Below w.heap.size w W2)
    (fun s A A' h ⟨a1, a2, a3, a4, a5⟩ => ⟨a1, h.box a2, h.box a3, h.row a4, h.cell a5⟩)
    ⟨rfl, u1, u2, u3, u4⟩ ?assign ?body ?done ?panic)
  case assign =>
    intro l x W K hK
    simp only [List.setIfInBounds_toArray, List.set_cons_zero, List.set_cons_succ] at hK ⊢
    gi_wp2
    exact hK
  case body =>
    rintro l pre x W2 ⟨a1, a2, a4, a5, a3⟩ hB2 hbit hx64 hpre
    simp only [List.setIfInBounds_toArray, List.set_cons_zero, List.set_cons_succ]
    obtain ⟨hi, hf⟩ := HMT.out x.1 hx64 hbit
    have hS : swp (nxT G part) G (nos (pre ++ [x])) = swStep (nxT G part) (swp (nxT G part) G (nos pre)) x.1 := by rw [nos_snoc, swp_snoc]
    obtain ⟨s, hs⟩ : ∃ s, swp (nxT G part) G (nos pre) = s := ⟨_, rfl⟩
    rw [hs] at a1 a2 hS
    obtain ⟨K, ok, mg⟩ := s
    dsimp only at a1 a2
    have hh := a2.at'.h
    rw [Nat.zero_add] at hh
    have cK := Grd_fld hh x.1 hx64
    have cN : W2.cell? ⟨N, 0 + x.1, none⟩ = some (.float .f32 (balF G x.1)) := by rw [Nat.zero_add]; exact a5.cell x.1 hx64
    have hx2 : (x.1 : Int) < 64 := by omega
    have hzB := hB2.size
    have A1 := Lib.hid a1
    have A2 := Lib.hid a2
    have A4 := Lib.hid a4
    have A5 := Lib.hid a5
    have HS := Lib.hid hS
    have HP := Lib.hid hpre
    have HFX := Lib.hid hf
    have HB2 := Lib.hid hB2
    have HPL := Lib.hid (show (swp (nxT G part) G (nos (pre ++ [x]))).2.1 = false → (stpF G part).2.1 = false from fun h => by
      have h1 := swp_no (nxT G part) G hpre h
      rw [HL.out, HF.out.2] at h1
      exact h1)
    clear a1 a2 a4 a5 hS hs hpre hf hi hB2 hbit hh u1 u2 u3 u4 cM TU
    gi_upto_region 6 with (fail)
    refine wpIn_region_calm (ops' := regOf Tryd.f34 6) [0, 1, 2, 3, 4, 5] [] .fin (Quiet W2) [(0, One (.float .f32 part)), (1, One (.int .i64 (x.1 : Int))), (2, One (.pointer (some ⟨N, 0 + x.1, none⟩))), (3, One (.float .f32 (balF G x.1))), (4, Numv .f32 (fop .f32 .mul (num .f32 part) (num .f32 (balF G x.1)))), (5, Numv .f32 (fop .f32 .mul (num .f32 part) (num .f32 (balF G x.1))))] (by kernel_rfl) (by kernel_rfl) (by kernel_rfl) (by kernel_rfl) (by kernel_rfl) (by kernel_rfl) (by kernel_rfl) (by kernel_rfl) (by kernel_rfl) rfl ((Quiet.refl _).drewN 1) ?_
    refine calm_read (some 22) (by kernel_rfl) (by kernel_rfl) (by kernel_rfl) (fun w' hw' => load_cell (ty := 41) (x := .tmp 2) (b := w.heap.size) (o := 0) (by kernel_rfl) (by kernel_rfl) Tryd.underlying41 rfl (kq a3 w' hw')) ?_
    refine calm_pure (some 23) (by kernel_rfl) (by kernel_rfl) (by kernel_rfl) (fun _ => by kernel_rfl) ?_
    refine calm_pure (some 24) (by kernel_rfl) (by kernel_rfl) (by kernel_rfl) (index_fld (x := .tmp 6) (y := .tmp 23) (o := 0) (by kernel_rfl) (by kernel_rfl) (by kernel_rfl) hx64) ?_
    refine calm_read (some 25) (by kernel_rfl) (by kernel_rfl) (by kernel_rfl) (fun w' hw' => load_cell (ty := 23) (x := .tmp 24) (b := N) (o := 0 + x.1) (by kernel_rfl) (by kernel_rfl) Tryd.underlying23 rfl (kq cN w' hw')) ?_
    refine calm_float (some 26) .f32 .mul 23 23 (.tmp 22) (.tmp 25) (part) ((balF G x.1)) (by kernel_rfl) (by kernel_rfl) (by kernel_rfl) (by kernel_rfl) rfl (by kernel_rfl) (by kernel_rfl) (fun _ n h => h.drewN n) (rfl) ?_
    intro r26 hr26
    refine calm_pureV (some 9) (.float .f32 r26) ⟨_, rfl, hr26⟩ (by kernel_rfl) (by kernel_rfl) (by kernel_rfl) (fun _ => by kernel_rfl) ?_
    rintro _ ⟨r9, rfl, hr9⟩
    refine calm_end fun V hV => plan_end (Clean.normal ?_)
    simp only [Act.put, List.setIfInBounds_toArray, List.set_cons_zero, List.set_cons_succ]
    have v3 := kq a3 _ hV
    have cV := kq cK _ hV
    have v2 := A2.out.below (hV.below (w.heap.size + 1 + 1)) (by omega)
    have v4 := A4.out.below (hV.below (w.heap.size + 1 + 1 + 1)) (by omega)
    have v5 := A5.out.quiet hV
    have k0 := hV.below W2.heap.size
    have tp : ∀ b, num .f32 b = fop .f32 .add (num .f32 (K.h x.1)) (num .f32 r9) → num .f32 b = nxT G part K x.1 := fun b hb => by rw [nxT_free HFX.out, hb, hr9]
    have TP := Lib.hid tp
    have V2 := Lib.hid v2
    have V4 := Lib.hid v4
    have V5 := Lib.hid v5
    have K0 := Lib.hid k0
    have hzV : V.heap.size = W2.heap.size := hV.size
    have bV := V2.out.at_some (130 + x.1) (by omega)
    have fV := V2.out.free (130 + x.1) (by omega)
    clear tp v2 v4 v5 k0 hr26 hr9 cK cN hV a3
    gi_upto_region 7 with (fail)
    gi_wp2_with (refine wpListIn_float rfl _ _ _ _ _ rfl rfl .f32 _ _ rfl rfl ?_; intro b n hb; have HBb := Lib.hid (TP.out b hb); clear hb)
    obtain ⟨Z, hZ⟩ : ∃ Z, World.drewN V n = Z := ⟨_, rfl⟩
    have qZ : Quiet V Z := by rw [← hZ]; exact ⟨n, rfl⟩
    have z2 := V2.out.below (qZ.below (w.heap.size + 1 + 1)) (by omega)
    have z4 := V4.out.below (qZ.below (w.heap.size + 1 + 1 + 1)) (by omega)
    have z5 := V5.out.quiet qZ
    have z3 := kq v3 _ qZ
    have k0 := K0.out.trans (qZ.below _)
    have hzZ : Z.heap.size = W2.heap.size := qZ.size.trans hzV
    rw [hZ]
    clear hZ qZ bV fV V2 V4 V5 K0 v3 hzV cV
    have hh := z2.at'.h
    rw [Nat.zero_add] at hh
    have cZ := Grd_fld hh x.1 hx64
    have fZ := z2.free (130 + x.1) (by omega)
    have Z2 := Lib.hid z2
    have Z3 := Lib.hid z3
    have Z4 := Lib.hid z4
    have Z5 := Lib.hid z5
    have KZ := Lib.hid k0
    clear z2 z3 z4 z5 k0 hh
    cases hp : plainB b
    · have HPb := Lib.hid hp
      have HNO := Lib.hid (HPL.out (by
        rw [HS.out]
        show (ok && plainO (nxT G part K x.1)) = false
        rw [← HBb.out, plainO_num, hp, Bool.and_false]))
      clear hp
      gi_wp2_with (refine ⟨trivial, ?_⟩; gi_at_call 46; refine CallsIn.inRound l ((callsIn_wide (n := 3)).2 ((plain_no b Z HPb.out).mono ?_)); rintro e Y' ⟨rfl, rfl⟩)
      exact ⟨rfl, KeepsOthers.of_below' KZ.out, ⟨_, rfl⟩, HNO.out, (BU.out.trans (HB2.out.mono (by omega))).trans (KZ.out.mono (by omega))⟩
    · have HPb := Lib.hid hp
      have HST := Lib.hid (show swp (nxT G part) G (nos (pre ++ [x])) = (putHd K x.1 b, true, maxN mg (chgN b (K.h x.1))) by
        have hn : nxT G part K x.1 = some b := by
          rw [← HBb.out]
          refine num_some ?_
          cases h : nanK .f32 b
          · rfl
          · rw [plain_nan h] at hp; cases hp
        rw [HS.out]
        unfold swStep
        dsimp only
        rw [hn, A1.out]
        simp [plainO, hp])
      clear hp
      gi_wp2_with (refine ⟨trivial, ?_⟩; gi_at_call 46; refine CallsIn.inRound l ((callsIn_wide (n := 3)).2 ((plain_yes b Z HPb.out).mono ?_)); rintro e Y' ⟨rfl, rfl⟩)
      have k2 := (KZ.out.mono (by omega) : Below w.heap.size W2 Z).setCell (p := ⟨w.heap.size + 1, 130 + x.1, none⟩) (by simp) (.float .f32 b)
      refine ⟨(KeepsOthers.of_below' KZ.out).trans (KeepsOthers.setCell _ _ _), k2, ⟨?_, ?_, Z4.out.far (by omega), Z5.out.far _ _ (by omega), (cell_other (fun e => by injection e; omega)).trans Z3.out⟩, HB2.out.trans k2⟩
      · rw [HST.out]
      · rw [HST.out]
        exact Z2.out.putH hx64
  case done =>
    rintro D W2 hD ⟨a1, a2, a4, a5, a3⟩ hB2 hK
    have e := HF.out
    have R1 := Lib.hid (show (stpF G part).2.1 = true by rw [← e.2, ← HL.out]; exact a1)
    have E := Lib.hid (show (swp (nxT G part) G (bitsL mm)).1 = (stpF G part).1 by rw [← e.1, ← HL.out])
    rw [E.out] at a2
    obtain ⟨O, hO⟩ : ∃ O, (stpF G part).1 = O := ⟨_, rfl⟩
    have HO := Lib.hid hO
    rw [hO] at a2
    have rr := a2.range
    have tt := a4.there
    have HB3 := Lib.hid (BU.out.trans (hB2.mono (by omega)))
    have hwD : w.heap.size ≤ D := by omega
    have S2 := Lib.hid (a4.store (H := O))
    have hRD : D ≠ w.heap.size + 1 + 1 := by omega
    have K2 := Lib.hid ((heap_setCells_other (Grd O).toList hRD).trans hK : (W2.setCells (w.heap.size + 1 + 1) 0 (Grd O).toList).heap[D]? = _)
    clear a1 a2 a3 a4 a5 hB2 hD hK u1 u2 u3 u4 cM TU e hO
    refine WpAt.of_in (n := 6) (wpIn_wide.2 ?_)
    go_wp2_with (first | (refine ld_stage 30 rfl ?_; refine wpList_load_mid rfl 30 _ rfl (w.heap.size + 1) 0 rfl (GrdL (O)) _ rr Tryd.underlying30 rfl (by rw [GrdL_length]; exact infoGround) ?_) | (refine st_stage 30 rfl ?_; refine wpList_store_mid rfl 30 _ _ rfl _ 0 (Grd (O)) rfl rfl (by rw [Grd_size]; with_reducible exact tt) (by rw [Grd_size]; exact infoGround) (Grd_one _) ?_))
    exact ret_marks K2.out (fun W' hc => ret_GN rfl rfl rfl (hc.box S2.out).range) (fun W' _ hb => ⟨(below_setCells _ (by omega) _ _ _ HB3.out).trans (hb _ hwD), .inl ⟨R1.out, by rw [HO.out]⟩⟩)
  case panic =>
    rintro D ch W2 hD ⟨⟨b, rfl⟩, h2, h3⟩ hK
    refine ⟨by simp, .inl ⟨_, _, rfl, run_takeDeferred hK, ?_⟩⟩
    exact ⟨below_putObj h3 (by omega) (Nat.le_refl _) hK, .inr ⟨h2, b, rfl⟩⟩

/-- How a step ends: with what it reckons, or by a panic where the ground would not be valid. -/
def StpE (R : Gd × Int) (w : World) (e : Ending) (w' : World) : Prop := Below w.heap.size w w' ∧ (e = .returned (GN R.1 R.2) ∨ (R = (zG, 4) ∧ ∃ b, e = .panicked [{ v := notPl b, recovered := false }]))
theorem after_any (G : Gd) (part : Nat) (w : World) (hv : validB G = true) (hG : GdOk G) (hT : TabAt w) : Calls Tryd.prog 34 #[.float .f32 part, .agg (Grd G)] w (StpE (stpR G part) w) := by
  cases ha : allFin G
  · refine (after_nf G part w hv hG hT ha).mono ?_
    rintro e w' ⟨rfl, h⟩
    rw [stpR_nf ha]
    exact ⟨h, .inl rfl⟩
  · refine (after_fin G part w hv hG hT ha).mono ?_
    rintro e w' ⟨h, ⟨h1, rfl⟩ | ⟨h1, b, rfl⟩⟩
    · rw [stpR_yes ha h1]
      exact ⟨h, .inl rfl⟩
    · rw [stpR_np h1]
      exact ⟨h, .inr ⟨rfl, b, rfl⟩⟩

theorem ta_fail (b : Nat) (w : World) : (Instr.typeAssert (notPl b) 20 89 true).run Tryd.prog w = .ok (.tuple #[notPl b, .bool true]) w := by kernel_rfl
theorem mth_code2 (b n : Nat) (w : World) : (method (n + 1) 99 (.float .f32 b) "loop.example/g01288/impl.code").run Tryd.prog w = .ok (97, .float .f32 b) w := by kernel_rfl
set_option maxRecDepth 100000 in
theorem attCatch (b : Nat) (p : Addr) (x : Int) (older : List PanicEntry) (w : World) (hc : w.cell? p = some (.int .i64 x)) (hz : w.frozen? p = false) :
    CallsD Tryd.prog 45 #[.pointer (some p)] (.panicking ({ v := notPl b, recovered := false } :: older)) w fun e u' w' =>
      e = .returned (.tuple #[]) ∧ u' = .panicking ({ v := notPl b, recovered := true } :: older) ∧ ∃ V, Below w.heap.size w V ∧ w' = V.setCell p (.int .i64 4) := by
  refine callsD_of_wpS Tryd.func45 rfl fun c₀ cs hu => ?_
  apply wpS_seq
  apply wpS_region
  simp [wpOpsS, go_sem, recoverD, hu, Tryd.ntmps45, Exit.thenS]
  refine wpS_of_wp ?_
  simp only [Array.replicate_succ, Array.replicate_zero, List.push_toArray, List.append_toArray, List.nil_append, List.cons_append, List.setIfInBounds_toArray, List.set_cons_zero, List.set_cons_succ]
  have ht := ta_fail
  have hm := mth_code2
  have HBA := Lib.hid (Below.refl w.heap.size w)
  simp only [notPl] at ht ⊢
  go_wp2
  simp [bodyPostS, results, Tryd.results45]
  exact ⟨_, HBA.out, rfl⟩
set_option maxRecDepth 100000 in
theorem attIdle (p : Addr) (w : World) :
    CallsD Tryd.prog 45 #[.pointer (some p)] .returning w fun e u' w' => e = .returned (.tuple #[]) ∧ u' = .returning ∧ w' = w := by
  refine callsD_of_wpS Tryd.func45 rfl fun c₀ cs hu => ?_
  apply wpS_seq
  apply wpS_region
  simp [wpOpsS, go_sem, recoverD, hu, Tryd.ntmps45, Exit.thenS]
  refine wpS_of_wp ?_
  simp only [Array.replicate_succ, Array.replicate_zero, List.push_toArray, List.append_toArray, List.nil_append, List.cons_append, List.setIfInBounds_toArray, List.set_cons_zero, List.set_cons_succ]
  have ht := ta_nil
  go_wp2
  cases c₀
  simp_all [bodyPostS, results, Tryd.results45]
/-- A ground and a code are boxed. -/
theorem gi_box (G : Gd) (x : Int) (t u : TypeId) (w : World) : ∃ W, (w.alloc (.cells (Grd G) t)).alloc (.cells #[.int .i64 x] u) = W ∧ W.heap.size = w.heap.size + 1 + 1 ∧ GBox W w.heap.size G ∧ W.cell? ⟨w.heap.size + 1, 0, none⟩ = some (.int .i64 x) ∧ W.frozen? ⟨w.heap.size + 1, 0, none⟩ = false ∧ Below w.heap.size w W := by
  obtain ⟨W1, h1, z1, g1, b1⟩ := gbox1 G t w
  rw [h1]
  have b2 : Below W1.heap.size W1 (W1.alloc (.cells #[.int .i64 x] u)) := (Below.refl _ _).alloc (Nat.le_refl _) _
  refine ⟨_, rfl, by simp [z1], g1.below b2 (by omega), ?_, ?_, b1.trans (b2.mono (by omega))⟩
  · rw [← z1]; exact cell_of_row _ _ 0 _ _ _ (heap_alloc_last W1 _)
  · have := (there_row (n := 1) (heap_alloc_last W1 (.cells #[.int .i64 x] u)) rfl 0 (by omega)).2
    rw [Nat.zero_add] at this
    rw [← z1]; exact this
theorem results_gc {P : Program} {fn : Func} {p q : Tmp} {ty ti : TypeId} {D Di : TypeDesc} (h : fn.results = #[.cell p ty, .cell q ti]) (tmps : Array Value) (w : World) (b c : Nat) (G : Gd) (n : Int)
    (hp : tmps.getD p undef = .pointer (some ⟨b, 0, none⟩)) (hq : tmps.getD q undef = .pointer (some ⟨c, 0, none⟩)) (hc : w.rangeAt b 0 (GrdL G)) (hn : w.cell? ⟨c, 0, none⟩ = some (.int .i64 n))
    (hu : P.underlying ty = some D) (hd : D.isRow = true) (hui : P.underlying ti = some Di) (hdi : Di.isRow = false) (hi : (P.info? ty).map (·.size) = some 195) :
    (results fn tmps).run P w = .ok (.tuple #[.agg (Grd G), .int .i64 n]) w := by
  have hp' : tmps[p]?.getD undef = .pointer (some ⟨b, 0, none⟩) := by simpa using hp
  have hq' : tmps[q]?.getD undef = .pointer (some ⟨c, 0, none⟩) := by simpa using hq
  have h1 := run_loadVar_mid (P := P) w b 0 ty (GrdL G) D hc hu hd (by rw [GrdL_length]; exact hi)
  have hagg : (isAgg ti).run P w = .ok false w := by
    unfold isAgg
    rw [Sem.run_bind, run_underlying hui w]
    cases Di <;> simp_all
  have h2 : (loadVar ti ⟨c, 0, none⟩).run P w = .ok (.int .i64 n) w := by
    unfold loadVar
    go_simp
  simp [results, h, hp', hq', asAddr, h1, h2, Grd]

set_option maxRecDepth 100000 in
set_option maxHeartbeats 2000000 in
/-- attempt over a ground. -/
theorem attG (R : Gd × Int) (p q : Addr) (w : World) (hm : ∀ W, Below w.heap.size w W → Calls Tryd.prog 32 #[.pointer (some p), .pointer (some q)] W (StpE R W)) :
    Calls Tryd.prog 31 #[.func (.func 32) #[] #[.pointer (some p), .pointer (some q)]] w fun e w' => e = .returned (GN R.1 R.2) ∧ Below w.heap.size w w' := by
  have hz := (zero_of_info zeroGround).1
  have hmf : ∀ (fn : Fn) (first cap : Array Value) (w : World), (Instr.makeFunc fn first cap).run Tryd.prog w = .ok (.func fn first cap) w := fun _ _ _ _ => rfl
  go_enter_defers Tryd.func31, Tryd.ntmps31
  go_upto_region 1 with (fail)
  obtain ⟨W, hW, zW, g1, c1, f1, hB⟩ := gi_box zG 0 30 2 w
  try rw [hW]
  have T := Lib.hid (hm W hB)
  have G1 := Lib.hid g1
  have C1 := Lib.hid c1
  have F1 := Lib.hid f1
  have HB := Lib.hid hB
  clear hm hW c1 f1 hB g1
  go_wp2_with (go_at_call 32; fail)
  refine T.out.mono ?_
  rintro e V ⟨hb, rfl | ⟨hR, b, rfl⟩⟩
  · have G2 := Lib.hid (G1.out.below hb (by omega))
    have C2 := Lib.hid (kc C1.out (by omega) _ hb)
    have F2 := Lib.hid ((hb.frozen (p := ⟨w.heap.size + 1, 0, none⟩) (by simp; omega)).trans F1.out : V.frozen? ⟨w.heap.size + 1, 0, none⟩ = false)
    have B2 := Lib.hid (HB.out.trans (hb.mono (by omega)))
    have tt := G2.out.there
    obtain ⟨A, n⟩ := R
    have cc : (V.setCells w.heap.size 0 (Grd A).toList).cell? ⟨w.heap.size + 1, 0, none⟩ = some (.int .i64 0) := (cell_farS (by omega) _ _ _).trans C2.out
    have ff : (V.setCells w.heap.size 0 (Grd A).toList).frozen? ⟨w.heap.size + 1, 0, none⟩ = false := (frozenS _ _ _ _).trans F2.out
    clear hb zW
    simp only [GN]
    go_wp2_with (first | (refine st_stage 30 rfl ?_; refine wpList_store_mid rfl 30 _ _ rfl _ 0 (Grd (A)) rfl rfl (by rw [Grd_size]; with_reducible exact tt) (by rw [Grd_size]; exact infoGround) (Grd_one _) ?_))
    refine leaves_cons (f := 45) (args := #[.pointer (some ⟨w.heap.size + 1, 0, none⟩)]) (by simp) (by simp [go_sem]) ?_
    refine (attIdle ⟨w.heap.size + 1, 0, none⟩ _).mono ?_
    rintro e u' w'' ⟨rfl, rfl, rfl⟩
    show Leaves _ _ _ _ [] .returning _
    have zc : ((V.setCells w.heap.size 0 (Grd A).toList).setCell ⟨w.heap.size + 1, 0, none⟩ (.int .i64 n)).cell? ⟨w.heap.size + 1, 0, none⟩ = some (.int .i64 n) := World.cell?_setCell_same' _ _ _ (by rw [cc]; rfl)
    have gg : GBox ((V.setCells w.heap.size 0 (Grd A).toList).setCell ⟨w.heap.size + 1, 0, none⟩ (.int .i64 n)) w.heap.size A := (G2.out.store (H := A)).far (by omega)
    refine ⟨_, results_gc rfl _ _ _ _ A n rfl rfl gg.range zc Tryd.underlying30 rfl Tryd.underlying2 rfl infoG195, rfl, ?_⟩
    exact (below_setCells _ (Nat.le_refl _) _ _ _ B2.out).setCell (by simp) _
  · have G2 := Lib.hid (G1.out.below hb (by omega))
    have c2 := kc C1.out (by omega) _ hb
    have f2 : V.frozen? ⟨w.heap.size + 1, 0, none⟩ = false := (hb.frozen (p := ⟨w.heap.size + 1, 0, none⟩) (by simp; omega)).trans F1.out
    have B2 := Lib.hid (HB.out.trans (hb.mono (by omega)))
    subst hR
    go_wp2
    refine leaves_cons (f := 45) (args := #[.pointer (some ⟨w.heap.size + 1, 0, none⟩)]) (by simp) (by simp [go_sem]) ?_
    refine (attCatch b ⟨w.heap.size + 1, 0, none⟩ 0 [] V c2 f2).mono ?_
    rintro e u' w'' ⟨rfl, rfl, Z, hZ, rfl⟩
    show Leaves _ _ _ _ [] .returning _
    have zV := hb.size
    have zc : (Z.setCell ⟨w.heap.size + 1, 0, none⟩ (.int .i64 4)).cell? ⟨w.heap.size + 1, 0, none⟩ = some (.int .i64 4) := World.cell?_setCell_same' _ _ _ (by rw [(hZ.cell (p := ⟨w.heap.size + 1, 0, none⟩) (by simp; omega)).trans c2]; rfl)
    have gg : GBox (Z.setCell ⟨w.heap.size + 1, 0, none⟩ (.int .i64 4)) w.heap.size zG := (G2.out.below hZ G2.out.lt).far (by omega)
    refine ⟨_, results_gc rfl _ _ _ _ zG 4 rfl rfl gg.range zc Tryd.underlying30 rfl Tryd.underlying2 rfl infoG195, rfl, ?_⟩
    exact (B2.out.trans (hZ.mono B2.out.size)).setCell (by simp) _

theorem ta_seep (b : Nat) (w : World) : (Instr.typeAssert (.iface 41 (.float .f32 b)) 47 41 true).run Tryd.prog w = .ok (.tuple #[.float .f32 b, .bool true]) w := by kernel_rfl
set_option maxRecDepth 100000 in
set_option maxHeartbeats 2000000 in
/-- behindStep's closure, for a step without a tide. -/
theorem behind1 (G : Gd) (part c b : Nat) (w : World) (hv : validB G = true) (hG : GdOk G) (hT : TabAt w) (hc : w.cell? ⟨c, 0, none⟩ = some (.iface 41 (.float .f32 part))) (hb : GBox w b G) :
    Calls Tryd.prog 32 #[.pointer (some ⟨c, 0, none⟩), .pointer (some ⟨b, 0, none⟩)] w (StpE (stpR G part) w) := by
  have hz := (zero_of_info zeroGround).1
  have hbl := hb.lt
  have hcl := World.block_lt_of_cell? w _ hc
  obtain ⟨R, hR⟩ : ∃ R, stpR G part = R := ⟨_, rfl⟩
  have HA := Lib.hid (fun (V : World) (h : TabAt V) => hR ▸ after_any G part V hv hG h)
  rw [hR]
  have ht := ta_seep part
  clear hR
  go_enter Tryd.func32, Tryd.ntmps32
  go_upto_region 1 with (fail)
  obtain ⟨W, hW, zW, g1, hB⟩ := gbox1 zG 30 w
  rw [hW]
  clear hW
  have G1 := Lib.hid g1
  have GB := hb.below hB hbl
  have r1 := GB.range
  have cW := kc hc hcl _ hB
  have HB := Lib.hid hB
  have HT := Lib.hid (hT.below hB (tab_lt hT))
  clear hc hb hB hT g1 GB
  go_wp2_with (first | (refine ld_stage 30 rfl ?_; refine wpList_load_mid rfl 30 _ rfl (b) 0 rfl (GrdL (G)) _ r1 Tryd.underlying30 rfl (by rw [GrdL_length]; exact infoGround) ?_) | (go_at_call 34; fail))
  refine ((HA.out _ HT.out).mono ?_)
  rintro e V ⟨hb1, rfl | ⟨hR, x, rfl⟩⟩
  · have G2 := Lib.hid (G1.out.below hb1 (by omega))
    have B2 := Lib.hid (HB.out.trans (hb1.mono (by omega)))
    have tt := G2.out.there
    obtain ⟨A, n⟩ := R
    clear hb1 zW
    simp only [GN]
    go_wp2_with (first | (refine st_stage 30 rfl ?_; refine wpList_store_mid rfl 30 _ _ rfl _ 0 (Grd (A)) rfl rfl (by rw [Grd_size]; with_reducible exact tt) (by rw [Grd_size]; exact infoGround) (Grd_one _) ?_))
    refine bodyPost_ret (ret_GN rfl rfl rfl G2.out.store.range) rfl ⟨below_setCells _ (Nat.le_refl _) _ _ _ B2.out, .inl rfl⟩
  · exact ⟨rfl, HB.out.trans (hb1.mono (by omega)), .inr ⟨hR, x, rfl⟩⟩

/-- A ground, a cell and a ground are boxed. -/
theorem gvg_box (G K : Gd) (x : Value) (t u v : TypeId) (w : World) : ∃ W, ((w.alloc (.cells (Grd G) t)).alloc (.cells #[x] u)).alloc (.cells (Grd K) v) = W ∧ W.heap.size = w.heap.size + 1 + 1 + 1 ∧ GBox W w.heap.size G ∧ W.cell? ⟨w.heap.size + 1, 0, none⟩ = some x ∧ GBox W (w.heap.size + 1 + 1) K ∧ Below w.heap.size w W := by
  obtain ⟨W1, h1, z1, g1, b1⟩ := gbox1 G t w
  rw [h1]
  obtain ⟨W2, h2⟩ : ∃ W2, W1.alloc (.cells #[x] u) = W2 := ⟨_, rfl⟩
  have z2 : W2.heap.size = w.heap.size + 1 + 1 := by rw [← h2]; simp [z1]
  have b2 : Below W1.heap.size W1 W2 := by rw [← h2]; exact (Below.refl _ _).alloc (Nat.le_refl _) _
  have c2 : W2.cell? ⟨w.heap.size + 1, 0, none⟩ = some x := by rw [← h2, ← z1]; exact cell_of_row _ _ 0 _ _ _ (heap_alloc_last W1 _)
  rw [h2]
  obtain ⟨W3, h3, z3, g3, b3⟩ := gbox1 K v W2
  rw [z2] at g3
  exact ⟨W3, h3, by rw [z3, z2], (g1.below b2 (by omega)).below b3 (by omega), kc c2 (by omega) _ b3, g3, b1.trans ((b2.mono (by omega)).trans (b3.mono (by omega)))⟩
set_option maxRecDepth 100000 in
set_option maxHeartbeats 2000000 in
/-- behindStep, for a step without a tide. -/
theorem behind_any (G : Gd) (part : Nat) (w : World) (hv : validB G = true) (hG : GdOk G) (hT : TabAt w) :
    Calls Tryd.prog 23 #[.agg (Grd G), .iface 41 (.float .f32 part)] w fun e w' => e = .returned (GN (stpR G part).1 (stpR G part).2) ∧ Below w.heap.size w w' := by
  have hz := (zero_of_info zeroGround).1
  have hmf : ∀ (fn : Fn) (first cap : Array Value) (w : World), (Instr.makeFunc fn first cap).run Tryd.prog w = .ok (.func fn first cap) w := fun _ _ _ _ => rfl
  obtain ⟨R, hR⟩ : ∃ R, stpR G part = R := ⟨_, rfl⟩
  have HA := Lib.hid (fun (c b : Nat) (V : World) (h : TabAt V) (h1 : V.cell? ⟨c, 0, none⟩ = some (.iface 41 (.float .f32 part))) (h2 : GBox V b G) => hR ▸ behind1 G part c b V hv hG h h1 h2)
  rw [hR]
  clear hR
  obtain ⟨A, n⟩ := R
  go_enter Tryd.func23, Tryd.ntmps23
  go_upto_region 1 with (fail)
  obtain ⟨W, hW, zW, g1, c1, g2, hB⟩ := gvg_box G zG (.iface 41 (.float .f32 part)) 30 47 30 w
  rw [hW]
  clear hW
  have G1 := Lib.hid g1
  have C1 := Lib.hid c1
  have G2 := Lib.hid g2
  have HB := Lib.hid hB
  have HT := Lib.hid (hT.below hB (tab_lt hT))
  have hl := tab_lt HT.out
  clear hB hT g1 g2 c1
  go_wp2_with (first | (go_at_call 31; refine (attG (A, n) ⟨w.heap.size + 1, 0, none⟩ ⟨w.heap.size, 0, none⟩ W (fun X hX => HA.out _ _ _ (HT.out.below hX hl) (kc C1.out (by omega) _ hX) (G1.out.below hX (by omega)))).mono ?_; rintro e V ⟨rfl, hb⟩; have S2 := Lib.hid (G2.out.below hb (by omega)); have tt := S2.out.there; have B2 := Lib.hid (HB.out.trans (hb.mono (by omega))); clear hb; simp only [GN]) | (refine st_stage 30 rfl ?_; refine wpList_store_mid rfl 30 _ _ rfl _ 0 (Grd (A)) rfl rfl (by rw [Grd_size]; with_reducible exact tt) (by rw [Grd_size]; exact infoGround) (Grd_one _) ?_))
  refine bodyPost_ret (ret_GN rfl rfl rfl S2.out.store.range) rfl ⟨rfl, below_setCells _ (by omega) _ _ _ B2.out⟩
end Go.Proofs.YtinepldaodadiaaDoor
