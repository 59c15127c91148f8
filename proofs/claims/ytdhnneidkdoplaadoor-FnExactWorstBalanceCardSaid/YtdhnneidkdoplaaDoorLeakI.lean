/- LeakOf: the program's. Condition: the table of math/bits is laid. -/
import Derived.Test.YtdhnneidkdoplaaDoorLeakS
import Derived.Test.YtdhnneidkdoplaaDoorNums
namespace Go.Proofs.YtdhnneidkdoplaaDoor
open Go.RowKit Go.Shelf
attribute [local go_sem] Oper.semAt_some run_store_float
set_option linter.unusedSimpArgs false
set_option linter.unusedVariables false

theorem bitsL_nodup (x : Nat) : (bitsL x).Nodup := List.Pairwise.filter _ List.nodup_range
theorem bitsL_rest {x m c : Nat} (h0 : x ≠ 0) (hx : x < 18446744073709551616) (hc : c = Lib.ctz 64 x) (hm : ∀ i, i < 64 → m.testBit i = (x.testBit i && !(2 ^ c).testBit i)) : bitsL x = c :: bitsL m := by
  have e := bitsL_cons h0 hx
  have hn := bitsL_nodup x
  rw [e, ← hc] at hn
  rw [e, ← hc]
  congr 1
  obtain ⟨h1, _⟩ := List.nodup_cons.1 hn
  have e2 : bitsL m = (bitsL x).filter (fun i => decide (i ≠ c)) := by
    unfold bitsL
    rw [List.filter_filter]
    refine List.filter_congr fun i hi => ?_
    have hi' : i < 64 := by simpa using hi
    rw [hm i hi', Nat.testBit_two_pow]
    by_cases e3 : i = c
    · subst e3; simp
    · have : ¬ c = i := fun h => e3 h.symm
      simp [e3, this]
  rw [e2, e, ← hc, List.filter_cons, if_neg (by simp)]
  symm
  rw [List.filter_eq_self]
  intro i hi
  have : i ≠ c := fun h => h1 (h ▸ hi)
  simp [this]
theorem fx_sub {G : Gd} (hv : validB G = true) (hG : GdOk G) : ∀ i, i < 64 → G.x.toNat.testBit i = true → isB G i = true := fun i hi hb => by
  have hf : fixB G = true := by
    have := hv
    unfold validB at this
    simp only [Bool.and_eq_true] at this
    exact this.2.2.2.2.2.2
  have xx := hG.x'
  obtain ⟨x, hx⟩ : ∃ x : Nat, G.x = x := ⟨G.x.toNat, by omega⟩
  obtain ⟨n, h1, h2, h3⟩ := bits_andNot x (cellsN G) (by omega) (cellsN_lt G)
  unfold fixB at hf
  rw [hx, h1] at hf
  have hn : n = 0 := by simpa using hf
  have := h3 i hi
  rw [hx, Int.toNat_natCast] at hb
  rw [hn, hb, cellsN_testBit] at this
  simpa [hi] using this
theorem fx_bits {G : Gd} (hv : validB G = true) (hG : GdOk G) : fxTo G 64 = bitsL G.x.toNat := by
  unfold fxTo bitsL
  refine List.filter_congr fun i hi => ?_
  have hi' : i < 64 := by simpa using hi
  cases hb : G.x.toNat.testBit i
  · simp
  · rw [fx_sub hv hG i hi' hb]; rfl
theorem fx_ne {G : Gd} (hv : validB G = true) : G.x ≠ 0 := by
  have := hv
  unfold validB at this
  simp only [Bool.and_eq_true] at this
  have h := this.2.2.2.2.2.1
  simpa [bne] using h
/-- The sum, begun with a number. -/
def accO (f : Nat → Nat) (c : Nat) (l : List Nat) : Option Nat := l.foldl (fun o i => fop .f32 .add o (num .f32 (f i))) (num .f32 (f c))
theorem accO_snoc (f : Nat → Nat) (c : Nat) (l : List Nat) (i : Nat) : accO f c (l ++ [i]) = fop .f32 .add (accO f c l) (num .f32 (f i)) := by simp [accO]

set_option maxRecDepth 100000 in
set_option maxHeartbeats 1000000 in
theorem implLeak_bad (G : Gd) (f : Nat → Nat) (n : Int) (hn : n ≠ 0) (hV : balsV G = .tuple #[.agg (Fld f), .int .i64 n]) (w : World) (hG : GdOk G) (hT : TabAt w) :
    Calls Tryd.prog 24 #[.agg (Grd G)] w fun e w' => e = .returned (FI 0 n) ∧ Below w.heap.size w w' := by
  have hz := (zero_of_info zeroField).1
  have hne : (n != 0) = true := by simpa [bne] using hn
  have HV := Lib.hid hV
  clear hV
  go_enter Tryd.func24, Tryd.ntmps24
  go_upto_region 1 with (fail)
  obtain ⟨W, hW, hs, g1, hB, hT1⟩ := box_in G 32 w hT
  rw [hW]
  clear hW
  have r1 := g1.range
  have HB := Lib.hid hB
  have HG := Lib.hid hG
  have HT := Lib.hid hT1
  have hl : w.heap.size < W.heap.size := by omega
  clear g1 hB hs hG hT hT1
  go_upto_region 2 with (first | (refine ld_stage 32 rfl ?_; refine wpList_load_mid rfl 32 _ rfl w.heap.size 0 rfl (GrdL G) _ r1 Tryd.underlying32 rfl (by rw [GrdL_length]; exact infoGround) ?_) | (go_at_call 55; have hc := implBalances_any G W HG.out HT.out; rw [HV.out] at hc; refine hc.mono ?_; clear hc; rintro e V ⟨rfl, hb⟩; have Hb := Lib.hid hb; clear hb; have hth := new_thereF 30 V) | (refine st_stage 30 rfl ?_; refine wpList_store_mid rfl 30 _ _ rfl _ 0 (Fld (f)) rfl rfl (by rw [Fld_size]; with_reducible exact hth) (by rw [Fld_size]; exact infoField) (Fld_one _) ?_))
  obtain ⟨X, hX, zX, gX, bX⟩ := stored_fld f 30 V
  rw [hX]
  have B2 := Lib.hid ((HB.out.trans (Hb.out.mono (by omega))).trans (bX.mono (by have := Hb.out.size; omega)))
  clear hX gX bX hth zX r1
  go_wp2
  go_ret2
  exact ⟨rfl, B2.out⟩

set_option maxRecDepth 100000 in
set_option maxHeartbeats 4000000 in
theorem implLeak_good (G : Gd) (w : World) (hG : GdOk G) (hT : TabAt w) (hv : validB G = true) (ha : allFin G = true) :
    Calls Tryd.prog 24 #[.agg (Grd G)] w fun e w' => e = .returned (finV (fop .f32 .sub (num .f32 0) (sumO (balF G) (fxTo G 64)))) ∧ Below w.heap.size w w' := by
  obtain ⟨EV, hE⟩ : ∃ v, finV (fop .f32 .sub (num .f32 0) (sumO (balF G) (fxTo G 64))) = v := ⟨_, rfl⟩
  obtain ⟨eb, en, heb⟩ : ∃ (b : Nat) (n : Int), EV = FI b n := by rw [← hE]; exact finV_is _
  rw [hE]
  have hz := (zero_of_info zeroField).1
  have hV : balsV G = .tuple #[.agg (Fld (balF G)), .int .i64 0] := by simp [balsV, hv, ha, FN]
  have HV := Lib.hid hV
  have xx := hG.x'
  obtain ⟨xn, hxn⟩ : ∃ x : Nat, G.x = x := ⟨G.x.toNat, by omega⟩
  have hx0 : xn ≠ 0 := fun e => fx_ne hv (by rw [hxn, e]; rfl)
  have hx64 : xn < 18446744073709551616 := by omega
  obtain ⟨c, hc⟩ : ∃ c, c = Lib.ctz 64 xn := ⟨_, rfl⟩
  have hcm : c ∈ bitsL xn := by rw [bitsL_cons hx0 hx64, ← hc]; simp
  have hc64 : c < 64 := (mem_bitsL.1 hcm).1
  obtain ⟨mm, hm1, mm64, hmt⟩ := bits_andNot xn (2 ^ c) hx64 (pow_lt c hc64)
  have hL := bitsL_rest (m := mm) hx0 hx64 hc hmt
  have HE := Lib.hid (show EV = finV (fop .f32 .sub (num .f32 0) (accO (balF G) c (bitsL mm))) by rw [← hE, fx_bits hv hG, hxn, Int.toNat_natCast, hL]; rfl)
  have hmm : bits .andNot .u64 G.x (IntKind.u64.wrap (2 ^ c)) = (mm : Int) := by rw [hxn, wrap_pow c hc64]; exact hm1
  have hc2 : (c : Int) < 64 := by omega
  have HXN := Lib.hid hxn
  have HCC := Lib.hid hc
  clear hE hV xx hmt hL hcm hm1 hxn hc
  refine (callsIn_wide (n := 6)).1 (callsIn_of_wp_marks Tryd.func24 rfl trivial ?_ rfl)
  simp only [Tryd.ntmps24, List.size_toArray, List.length_cons, List.length_nil, Nat.reduceAdd, Nat.reduceSub, Array.replicate_succ, Array.replicate_zero, List.push_toArray, List.append_toArray, List.nil_append, List.cons_append]
  refine wpIn_wide.2 ?_
  go_upto_region 1 with (fail)
  obtain ⟨W, hW, hs, g1, hB, hT1⟩ := box_in G 32 w hT
  rw [hW]
  clear hW
  have r1 := g1.range
  have hl : w.heap.size < W.heap.size := by omega
  have G1 := Lib.hid g1
  have HB := Lib.hid hB
  have HG := Lib.hid hG
  have HT := Lib.hid hT1
  have gtw := tab_lt hT
  clear g1 hB hs hG hT hT1
  go_upto_region 2 with (first | (refine ld_stage 32 rfl ?_; refine wpList_load_mid rfl 32 _ rfl w.heap.size 0 rfl (GrdL G) _ r1 Tryd.underlying32 rfl (by rw [GrdL_length]; exact infoGround) ?_) | (go_at_call 55; have hc := implBalances_any G W HG.out HT.out; rw [HV.out] at hc; refine hc.mono ?_; clear hc; rintro e V0 ⟨rfl, hb⟩; have Hb := Lib.hid hb; clear hb; have hth := new_thereF 30 V0) | (refine st_stage 30 rfl ?_; refine wpList_store_mid rfl 30 _ _ rfl _ 0 (Fld (balF G)) rfl rfl (by rw [Fld_size]; with_reducible exact hth) (by rw [Fld_size]; exact infoField) (Fld_one _) ?_))
  obtain ⟨X, hX, zX, gX, bX⟩ := stored_fld (balF G) 30 V0
  rw [hX]
  have hz0 := Hb.out.size
  have bWX : Below W.heap.size W X := Hb.out.trans (bX.mono hz0)
  have X1 := Lib.hid (G1.out.below bWX hl)
  have X2 := Lib.hid gX
  have BX := Lib.hid (HB.out.trans (bWX.mono (by omega)))
  have TX := Lib.hid (HT.out.below bWX (tab_lt HT.out))
  obtain ⟨N, hN⟩ : ∃ N, V0.heap.size = N := ⟨_, rfl⟩
  have hNX : N < X.heap.size := by omega
  have hwN : w.heap.size < N := by omega
  rw [hN] at X2 ⊢
  clear hX gX bX hth zX r1 bWX hN hz0 G1 HB HT Hb hz
  have cx := X1.out.at'.x
  rw [Nat.zero_add] at cx
  have cN0 := Grd_fld X2.out c hc64
  rw [Nat.zero_add] at cN0
  go_upto_region 5 with (go_at_call 57; have hcc := tz64 xn hx0 hx64 X TX.out; rw [← HXN.out, ← HCC.out] at hcc; refine hcc.mono ?_; clear hcc; rintro e w' ⟨rfl, hww⟩; rw [hww]; clear hww w')
  go_upto_region 6 with (fail)
  obtain ⟨V, hV⟩ : ∃ V, X.alloc (.cells #[.float .f32 (balF G c)] 23) = V := ⟨_, rfl⟩
  have hbV : Below X.heap.size X V := by rw [← hV]; exact (Below.refl _ _).alloc (Nat.le_refl _) _
  have zV : X.heap.size < V.heap.size := by rw [← hV]; simp
  have cS : V.cell? ⟨X.heap.size, 0, none⟩ = some (.float .f32 (balF G c)) := by rw [← hV]; exact cell_of_row _ _ 0 _ _ _ (heap_alloc_last X _)
  have fS : V.frozen? ⟨X.heap.size, 0, none⟩ = false := by rw [← hV]; have := (there_row (n := 1) (heap_alloc_last X (.cells #[.float .f32 (balF G c)] 23)) rfl 0 (by omega)).2; rwa [Nat.zero_add] at this
  rw [hV]
  obtain ⟨M, hM⟩ : ∃ M, X.heap.size = M := ⟨_, rfl⟩
  have V1 := Lib.hid (X1.out.below hbV (by omega))
  have v2 := range_kept X2.out hNX _ hbV
  have BV := Lib.hid (BX.out.trans (hbV.mono (by omega)))
  have TV := Lib.hid (TX.out.below hbV (tab_lt TX.out))
  rw [hM] at cS fS zV hNX ⊢
  clear hV cx cN0 X2 X1 BX TX hbV hM
  have cx := V1.out.at'.x
  rw [Nat.zero_add] at cx
  refine wp_region_plan (ops' := regOf Tryd.f24 6) (.take 0 (.take 1 (.take 2 (.take 3 (.take 4 (.run 5 .fin)))))) (Below V.heap.size V) (by kernel_rfl) (by kernel_rfl) (by kernel_rfl) (by kernel_rfl) (by kernel_rfl) (Below.refl _ _).drew ?_
  refine plan_pure (some 23) (.pointer (some ⟨w.heap.size, 194, none⟩)) (by kernel_rfl) (by kernel_rfl) (by kernel_rfl) (fun _ => by kernel_rfl) ?_
  refine plan_take (some 24) (.int .u64 G.x) (by kernel_rfl) (by kernel_rfl) (.inl ⟨by kernel_rfl, fun w' hw' => load_cell (ty := 25) (x := .tmp 23) (b := w.heap.size) (o := 194) (by kernel_rfl) (by kernel_rfl) Tryd.underlying25 rfl (kc cx (by omega) w' hw')⟩) ?_
  refine plan_pure (some 25) (.int .i64 (c : Int)) (by kernel_rfl) (by kernel_rfl) (by kernel_rfl) (fun _ => by kernel_rfl) ?_
  refine plan_pure (some 26) (.int .u64 (IntKind.u64.wrap (2 ^ c))) (by kernel_rfl) (by kernel_rfl) (by kernel_rfl) (shl_op (t := 2) (x := .const (.int .u64 1)) (y := .tmp 25) (by kernel_rfl) (by kernel_rfl) (by kernel_rfl) hc64) ?_
  refine plan_pure (some 27) (.int .u64 (mm : Int)) (by kernel_rfl) (by kernel_rfl) (by kernel_rfl) (fun _ => by rw [← hmm]; kernel_rfl) ?_
  refine plan_call (some 28) 58 #[.int .u64 (mm : Int)] (by kernel_rfl) (by kernel_rfl) (by kernel_rfl) (by kernel_rfl) ((bitsIn_any mm _).mono ?_)
  rintro e w2 ⟨rfl, rfl⟩
  obtain ⟨w', hww⟩ : ∃ w', V.drew = w' := ⟨_, rfl⟩
  have hw' : Quiet V w' := by rw [← hww]; exact (Quiet.refl _).drewN 1
  rw [hww]
  refine ⟨_, rfl, (hw'.below _).trans ((Below.refl _ _).alloc (by rw [hw'.size]; exact Nat.le_refl _) _), plan_end (NoPanic.normal ?_)⟩
  clear hww
  obtain ⟨U, hU⟩ : ∃ U, w'.alloc (.cells #[.int .u64 (mm : Int)] 25) = U := ⟨_, rfl⟩
  have hbU0 : Below w'.heap.size w' U := by rw [← hU]; exact (Below.refl _ _).alloc (Nat.le_refl _) _
  have cM : U.cell? ⟨w'.heap.size, 0, none⟩ = some (.int .u64 mm) := by rw [← hU]; exact cell_of_row _ _ 0 _ _ _ (heap_alloc_last w' _)
  have zw : w'.heap.size = V.heap.size := hw'.size
  have hbU : Below V.heap.size V U := (hw'.below _).trans (hbU0.mono (by omega))
  have zU : V.heap.size < U.heap.size := by have : w'.heap.size < U.heap.size := (by rw [← hU]; simp); omega
  rw [hU]
  rw [zw] at cM ⊢
  have u1 := Lib.hid (V1.out.below hbU (by omega))
  have u2 := range_kept v2 (by omega) _ hbU
  have u3 := kc cS zV _ hbU
  have u4 : U.frozen? ⟨M, 0, none⟩ = false := (hbU.frozen (p := ⟨M, 0, none⟩) zV).trans fS
  have BU := Lib.hid (BV.out.trans (hbU.mono (by omega)))
  have TU := TV.out.below hbU (tab_lt TV.out)
  have glt := tab_lt TV.out
  clear hU hbU0 hbU hw' zw V1 v2 cS fS BV TV cx
  simp only [Act.put, List.setIfInBounds_toArray, List.set_cons_zero, List.set_cons_succ]
  have hgM : 0 < M := by omega
  go_upto_region 7 with (fail)
  refine (wpIn_wide (n := 6)).1 (wp_bits 28 29 8 V.heap.size M mm mm64 rfl cM TU hgM (by omega)
    (fun pre W2 => ∃ b, W2.cell? ⟨M, 0, none⟩ = some (.float .f32 b) ∧ W2.frozen? ⟨M, 0, none⟩ = false ∧ num .f32 b = accO (balF G) c pre)
    (fun _ _ _ => False)
    (fun s A B h ⟨b, h1, h2, h3⟩ => ⟨b, h.cell h1, (h.frozen h1).trans h2, h3⟩) (fun _ _ _ _ _ h => h) ⟨balF G c, u3, u4, rfl⟩ ?assign ?body ?done ?stop)
  case assign =>
    intro l x W K hK
    simp only [List.setIfInBounds_toArray, List.set_cons_zero, List.set_cons_succ] at hK ⊢
    gi_wp2
    exact hK
  case body =>
    rintro l pre x W2 ⟨b, h1, h2, h3⟩ hB2 _ hx64
    simp only [List.setIfInBounds_toArray, List.set_cons_zero, List.set_cons_succ]
    have cN := Grd_fld (range_kept u2 (by omega) _ hB2) x.1 hx64
    refine wpIn_block ?_
    refine wpIn_region_calm (ops' := regOf Tryd.f24 8) [0, 1, 2, 3, 4] [5] (.run 5 .fin) (Quiet W2) [(0, One (.float .f32 b)), (1, One (.int .i64 (x.1 : Int))), (2, One (.pointer (some ⟨N, 0 + x.1, none⟩))), (3, One (.float .f32 (balF G x.1))), (4, Numv .f32 (fop .f32 .add (accO (balF G) c (nos pre)) (num .f32 (balF G x.1))))] (by kernel_rfl) (by kernel_rfl) (by kernel_rfl) (by kernel_rfl) (by kernel_rfl) (by kernel_rfl) (by kernel_rfl) (by kernel_rfl) (by kernel_rfl) rfl ((Quiet.refl _).drewN 1) ?_
    refine calm_read (some 30) (by kernel_rfl) (by kernel_rfl) (by kernel_rfl) (fun w' hw' => load_cell (ty := 23) (x := .tmp 7) (b := M) (o := 0) (by kernel_rfl) (by kernel_rfl) Tryd.underlying23 rfl (kq h1 w' hw')) ?_
    refine calm_pure (some 31) (by kernel_rfl) (by kernel_rfl) (by kernel_rfl) (fun _ => by kernel_rfl) ?_
    refine calm_pure (some 32) (by kernel_rfl) (by kernel_rfl) (by kernel_rfl) (index_fld (x := .tmp 4) (y := .tmp 31) (o := 0) (by kernel_rfl) (by kernel_rfl) (by kernel_rfl) hx64) ?_
    refine calm_read (some 33) (by kernel_rfl) (by kernel_rfl) (by kernel_rfl) (fun w' hw' => load_cell (ty := 23) (x := .tmp 32) (b := N) (o := 0 + x.1) (by kernel_rfl) (by kernel_rfl) Tryd.underlying23 rfl (kq cN w' hw')) ?_
    refine calm_float (some 34) .f32 .add 23 23 (.tmp 30) (.tmp 33) (b) ((balF G x.1)) (by kernel_rfl) (by kernel_rfl) (by kernel_rfl) (by kernel_rfl) rfl (by kernel_rfl) (by kernel_rfl) (fun _ n h => h.drewN n) (fop_eq h3 (rfl)) ?_
    intro r34 hr34
    refine calm_end fun w' hw' => plan_do none undef (w'.setCell ⟨M, 0, none⟩ (.float .f32 r34)) (by kernel_rfl) (by kernel_rfl) (by kernel_rfl) (.inr ⟨store_f32 (x := .tmp 7) (y := .tmp 34) (by kernel_rfl) (by kernel_rfl) (by kernel_rfl) infoF32 (kq h1 w' hw') (by obtain ⟨n, rfl⟩ := hw'; exact h2), rfl⟩) trivial (plan_end (Clean.normal ?_))
    have k1 : KeepsOthers W2 (w'.setCell ⟨M, 0, none⟩ (.float .f32 r34)) := (KeepsOthers.of_below' (hw'.below _)).trans (KeepsOthers.setCell _ _ _)
    have k2 : Below M W2 (w'.setCell ⟨M, 0, none⟩ (.float .f32 r34)) := (hw'.below _).setCell (p := ⟨M, 0, none⟩) (Nat.le_refl _) _
    refine ⟨k1, k2, ⟨r34, World.cell?_setCell_same' _ _ _ (by rw [kq h1 w' hw']; rfl), ?_, ?_⟩, hB2.trans k2⟩
    · rw [World.frozen?_setCell]; obtain ⟨n, rfl⟩ := hw'; exact h2
    · rw [nos_snoc, accO_snoc]; exact hr34
  case done =>
    rintro D W2 hD ⟨b, h1, h2, h3⟩ hB2 hK
    have HR := Lib.hid h3
    have HB3 := Lib.hid (BU.out.trans (hB2.mono (by omega)))
    have hwD : w.heap.size ≤ D := by omega
    clear h2 h3 u2 u3 u4 cM TU hB2 hD
    go_wp2_with (first | (refine wpList_float rfl _ _ _ _ _ rfl rfl .f32 _ _ rfl rfl ?_; intro r1 n1 hr; have R1 := Lib.hid hr; clear hr) | (go_at_call 64; have hc := ifFinite_o r1 _ (R1.out.trans (show _ = fop .f32 .sub (num .f32 0) (accO (balF G) c (bitsL mm)) by rw [HR.out])) (W2.drewN n1); rw [← HE.out, heb] at hc; refine hc.mono ?_; clear hc; rintro e W3 ⟨rfl, hq3⟩; unfold FI; have HQ3 := Lib.hid hq3; clear hq3))
    exact ret_marks (by obtain ⟨n, rfl⟩ := HQ3.out; exact hK) (fun W' _ => by simp [results, Tryd.results24, go_sem] <;> rfl) (fun W' _ hb => ⟨congrArg Ending.returned heb.symm, ((HB3.out.trans (Quiet.below ⟨n1, rfl⟩ _)).trans (HQ3.out.below _)).trans (hb _ hwD)⟩)
  case stop =>
    rintro D c pre W _ _ h _ _
    exact h.elim

theorem implLeak_any (G : Gd) (w : World) (hG : GdOk G) (hT : TabAt w) :
    Calls Tryd.prog 24 #[.agg (Grd G)] w fun e w' => e = .returned (leakV G) ∧ Below w.heap.size w w' := by
  cases hv : validB G
  · rw [show leakV G = FI 0 1 by simp [leakV, hv]]
    exact implLeak_bad G zf 1 (by decide) (by simp [balsV, hv, FN]) w hG hT
  · cases ha : allFin G
    · rw [show leakV G = FI 0 4 by simp [leakV, hv, ha]]
      exact implLeak_bad G zf 4 (by decide) (by simp [balsV, hv, ha, FN]) w hG hT
    · rw [show leakV G = finV (fop .f32 .sub (num .f32 0) (sumO (balF G) (fxTo G 64))) by simp [leakV, hv, ha]]
      exact implLeak_good G w hG hT hv ha
end Go.Proofs.YtdhnneidkdoplaaDoor
