/- WorstBalance: the program's. Condition: the table of math/bits is laid. -/
import Derived.Test.YtdhnneidkdoplaaDoorWorstS
import Derived.Test.YtdhnneidkdoplaaDoorLeakI
import Derived.Test.YtdhnneidkdoplaaDoorFree
namespace Go.Proofs.YtdhnneidkdoplaaDoor
open Go.RowKit Go.Shelf
attribute [local go_sem] Oper.semAt_some run_store_float
set_option linter.unusedSimpArgs false
set_option linter.unusedVariables false

set_option maxRecDepth 100000 in
set_option maxHeartbeats 1000000 in
theorem implWorst_bad (G : Gd) (f : Nat → Nat) (n : Int) (hn : n ≠ 0) (hV : balsV G = .tuple #[.agg (Fld f), .int .i64 n]) (w : World) (hG : GdOk G) (hT : TabAt w) :
    Calls Tryd.prog 19 #[.agg (Grd G)] w fun e w' => e = .returned (IFI 0 0 n) ∧ Below w.heap.size w w' := by
  have hz := (zero_of_info zeroField).1
  have hne : (n != 0) = true := by simpa [bne] using hn
  have HV := Lib.hid hV
  clear hV
  go_enter Tryd.func19, Tryd.ntmps19
  go_upto_region 1 with (fail)
  obtain ⟨W, hW, hs, g1, hB, hT1⟩ := box_in G 32 w hT
  rw [hW]
  clear hW
  have r1 := g1.range
  have hl : w.heap.size < W.heap.size := by omega
  have G1 := Lib.hid g1
  have HB := Lib.hid hB
  have HG := Lib.hid hG
  have HT := Lib.hid hT1
  clear g1 hB hs hG hT hT1
  go_upto_region 2 with (first | (refine ld_stage 32 rfl ?_; refine wpList_load_mid rfl 32 _ rfl w.heap.size 0 rfl (GrdL G) _ r1 Tryd.underlying32 rfl (by rw [GrdL_length]; exact infoGround) ?_) | (go_at_call 55; have hc := implBalances_any G W HG.out HT.out; rw [HV.out] at hc; refine hc.mono ?_; clear hc; rintro e V0 ⟨rfl, hb⟩; have Hb := Lib.hid hb; clear hb; have hth := new_thereF 30 V0) | (refine st_stage 30 rfl ?_; refine wpList_store_mid rfl 30 _ _ rfl _ 0 (Fld (f)) rfl rfl (by rw [Fld_size]; with_reducible exact hth) (by rw [Fld_size]; exact infoField) (Fld_one _) ?_))
  obtain ⟨X, hX, zX, gX, bX⟩ := stored_fld f 30 V0
  rw [hX]
  have hz0 := Hb.out.size
  have bWX : Below W.heap.size W X := Hb.out.trans (bX.mono hz0)
  have X1 := Lib.hid (G1.out.below bWX hl)
  have X2 := Lib.hid gX
  have BX := Lib.hid (HB.out.trans (bWX.mono (by omega)))
  have TX := Lib.hid (HT.out.below bWX (tab_lt HT.out))
  obtain ⟨N, hN⟩ : ∃ N, V0.heap.size = N := ⟨_, rfl⟩
  have hNX : N < X.heap.size := by omega
  have hwN : w.heap.size < N := by omega
  rw [hN] at X2 ⊢
  clear hX gX bX hth zX r1 bWX hN hz0 G1 HB HT Hb hz
  go_wp2
  go_ret3
  exact ⟨rfl, BX.out⟩

set_option maxRecDepth 100000 in
set_option maxHeartbeats 1000000 in
theorem implWorst_none (G : Gd) (f : Nat → Nat) (hV : balsV G = .tuple #[.agg (Fld f), .int .i64 0]) (w : World) (hG : GdOk G) (hT : TabAt w) (hv : validB G = true) (hf : freeTo G 64 = []) :
    Calls Tryd.prog 19 #[.agg (Grd G)] w fun e w' => e = .returned (IFI 0 0 6) ∧ Below w.heap.size w w' := by
  have hz := (zero_of_info zeroField).1
  have HV := Lib.hid hV
  clear hV
  obtain ⟨_, mm64, hmt⟩ := freeN_is hG
  have HFR := Lib.hid (fun (p : Nat) (V : World) (h : GrdAt V p 0 G) => free_any G hv p V h hG)
  obtain ⟨mm, hmm⟩ : ∃ mm, freeN G = mm := ⟨_, rfl⟩
  rw [hmm] at mm64 hmt HFR
  have hL : bitsL mm = freeTo G 64 := by
    unfold bitsL freeTo
    refine List.filter_congr fun i hi => ?_
    have hi' : i < 64 := by simpa using hi
    rw [hmt i hi']; rfl
  clear hmt hmm
  have hm0 : mm = 0 := by
    by_cases h : mm = 0
    · exact h
    · have := bitsL_cons h mm64
      rw [hL, hf] at this
      cases this
  have hme : (((mm : Nat) : Int) == 0) = true := by simp [hm0]
  clear hL hm0
  go_enter Tryd.func19, Tryd.ntmps19
  go_upto_region 1 with (fail)
  obtain ⟨W, hW, hs, g1, hB, hT1⟩ := box_in G 32 w hT
  rw [hW]
  clear hW
  have r1 := g1.range
  have hl : w.heap.size < W.heap.size := by omega
  have G1 := Lib.hid g1
  have HB := Lib.hid hB
  have HG := Lib.hid hG
  have HT := Lib.hid hT1
  clear g1 hB hs hG hT hT1
  go_upto_region 2 with (first | (refine ld_stage 32 rfl ?_; refine wpList_load_mid rfl 32 _ rfl w.heap.size 0 rfl (GrdL G) _ r1 Tryd.underlying32 rfl (by rw [GrdL_length]; exact infoGround) ?_) | (go_at_call 55; have hc := implBalances_any G W HG.out HT.out; rw [HV.out] at hc; refine hc.mono ?_; clear hc; rintro e V0 ⟨rfl, hb⟩; have Hb := Lib.hid hb; clear hb; have hth := new_thereF 30 V0) | (refine st_stage 30 rfl ?_; refine wpList_store_mid rfl 30 _ _ rfl _ 0 (Fld (f)) rfl rfl (by rw [Fld_size]; with_reducible exact hth) (by rw [Fld_size]; exact infoField) (Fld_one _) ?_))
  obtain ⟨X, hX, zX, gX, bX⟩ := stored_fld f 30 V0
  rw [hX]
  have hz0 := Hb.out.size
  have bWX : Below W.heap.size W X := Hb.out.trans (bX.mono hz0)
  have X1 := Lib.hid (G1.out.below bWX hl)
  have X2 := Lib.hid gX
  have BX := Lib.hid (HB.out.trans (bWX.mono (by omega)))
  have TX := Lib.hid (HT.out.below bWX (tab_lt HT.out))
  obtain ⟨N, hN⟩ : ∃ N, V0.heap.size = N := ⟨_, rfl⟩
  have hNX : N < X.heap.size := by omega
  have hwN : w.heap.size < N := by omega
  rw [hN] at X2 ⊢
  clear hX gX bX hth zX r1 bWX hN hz0 G1 HB HT Hb hz
  go_upto_region 5 with (go_at_call 56; refine (HFR.out _ _ X1.out.at').mono ?_; rintro e V ⟨rfl, hqV⟩)
  go_wp2
  go_ret3
  exact ⟨rfl, BX.out.trans (hqV.below _)⟩

set_option maxRecDepth 100000 in
set_option maxHeartbeats 4000000 in
theorem implWorst_good (G : Gd) (hV : balsV G = .tuple #[.agg (Fld (balF G)), .int .i64 0]) (w : World) (hG : GdOk G) (hT : TabAt w) (hv : validB G = true) (c : Nat) (r : List Nat) (hf : freeTo G 64 = c :: r) :
    Calls Tryd.prog 19 #[.agg (Grd G)] w fun e w' => e = .returned (IFI (wst (balF G) c r : Int) (balF G (wst (balF G) c r)) 0) ∧ Below w.heap.size w w' := by
  obtain ⟨f, hff⟩ : ∃ f, balF G = f := ⟨_, rfl⟩
  rw [hff] at hV
  have hz := (zero_of_info zeroField).1
  have HV := Lib.hid hV
  clear hV
  obtain ⟨_, mm64, hmt⟩ := freeN_is hG
  have HFR := Lib.hid (fun (p : Nat) (V : World) (h : GrdAt V p 0 G) => free_any G hv p V h hG)
  obtain ⟨mm, hmm⟩ : ∃ mm, freeN G = mm := ⟨_, rfl⟩
  rw [hmm] at mm64 hmt HFR
  have hL : bitsL mm = freeTo G 64 := by
    unfold bitsL freeTo
    refine List.filter_congr fun i hi => ?_
    have hi' : i < 64 := by simpa using hi
    rw [hmt i hi']; rfl
  clear hmt hmm
  have hm0 : mm ≠ 0 := fun h => by
    rw [h, bitsL_zero, hf] at hL
    cases hL
  have hcc : c = Lib.ctz 64 mm := by
    have := bitsL_cons hm0 mm64
    rw [hL, hf] at this
    exact (List.cons.inj this).1
  have hc64 : c < 64 := (mem_bitsL.1 (by rw [hL, hf]; simp : c ∈ bitsL mm)).1
  have HL := Lib.hid (hL.trans hf)
  have HCC := Lib.hid hcc
  have hme : (((mm : Nat) : Int) == 0) = false := by simpa using hm0
  have hall : ∀ i ∈ bitsL mm, i < 64 := fun i hi => (mem_bitsL.1 hi).1
  clear hL hf hcc
  refine (callsIn_wide (n := 6)).1 (callsIn_of_wp_marks Tryd.func19 rfl trivial ?_ rfl)
  simp only [Tryd.ntmps19, List.size_toArray, List.length_cons, List.length_nil, Nat.reduceAdd, Nat.reduceSub, Array.replicate_succ, Array.replicate_zero, List.push_toArray, List.append_toArray, List.nil_append, List.cons_append]
  refine wpIn_wide.2 ?_
  go_upto_region 1 with (fail)
  obtain ⟨W, hW, hs, g1, hB, hT1⟩ := box_in G 32 w hT
  rw [hW]
  clear hW
  have r1 := g1.range
  have hl : w.heap.size < W.heap.size := by omega
  have G1 := Lib.hid g1
  have HB := Lib.hid hB
  have HG := Lib.hid hG
  have HT := Lib.hid hT1
  clear g1 hB hs hG hT hT1
  go_upto_region 2 with (first | (refine ld_stage 32 rfl ?_; refine wpList_load_mid rfl 32 _ rfl w.heap.size 0 rfl (GrdL G) _ r1 Tryd.underlying32 rfl (by rw [GrdL_length]; exact infoGround) ?_) | (go_at_call 55; have hc := implBalances_any G W HG.out HT.out; rw [HV.out] at hc; refine hc.mono ?_; clear hc; rintro e V0 ⟨rfl, hb⟩; have Hb := Lib.hid hb; clear hb; have hth := new_thereF 30 V0) | (refine st_stage 30 rfl ?_; refine wpList_store_mid rfl 30 _ _ rfl _ 0 (Fld (f)) rfl rfl (by rw [Fld_size]; with_reducible exact hth) (by rw [Fld_size]; exact infoField) (Fld_one _) ?_))
  obtain ⟨X, hX, zX, gX, bX⟩ := stored_fld f 30 V0
  rw [hX]
  have hz0 := Hb.out.size
  have bWX : Below W.heap.size W X := Hb.out.trans (bX.mono hz0)
  have X1 := Lib.hid (G1.out.below bWX hl)
  have X2 := Lib.hid gX
  have BX := Lib.hid (HB.out.trans (bWX.mono (by omega)))
  have TX := Lib.hid (HT.out.below bWX (tab_lt HT.out))
  obtain ⟨N, hN⟩ : ∃ N, V0.heap.size = N := ⟨_, rfl⟩
  have hNX : N < X.heap.size := by omega
  have hwN : w.heap.size < N := by omega
  rw [hN] at X2 ⊢
  clear hX gX bX hth zX r1 bWX hN hz0 G1 HB HT Hb hz
  subst hff
  have glt := tab_lt TX.out
  go_upto_region 5 with (go_at_call 56; refine (HFR.out _ _ X1.out.at').mono ?_; rintro e V ⟨rfl, hqV⟩)
  have V1 := X1.out.below (hqV.below (w.heap.size + 1)) (by omega)
  have V2 := hqV.range X2.out
  have VT := TX.out.below (hqV.below X.heap.size) glt
  have BV := Lib.hid (BX.out.trans (hqV.below _))
  have zV : V.heap.size = X.heap.size := hqV.size
  have hNV : N < V.heap.size := by omega
  have hgw : 0 < V.heap.size := by omega
  clear X1 X2 TX BX hqV zV hNX
  go_upto_region 8 with (go_at_call 57; have htz := tz64 mm hm0 mm64 V VT; rw [← HCC.out] at htz; refine htz.mono ?_; clear htz; rintro e w' ⟨rfl, hww⟩; rw [hww]; clear hww w')
  obtain ⟨M, hM⟩ : ∃ M, V.heap.size = M := ⟨_, rfl⟩
  obtain ⟨Y, hY⟩ : ∃ Y, V.alloc (.cells #[.int .i64 c] 2) = Y := ⟨_, rfl⟩
  have hbY : Below V.heap.size V Y := by rw [← hY]; exact (Below.refl _ _).alloc (Nat.le_refl _) _
  have zY : V.heap.size < Y.heap.size := by rw [← hY]; simp
  have cS : Y.cell? ⟨V.heap.size, 0, none⟩ = some (.int .i64 c) := by rw [← hY]; exact cell_of_row _ _ 0 _ _ _ (heap_alloc_last V _)
  have fS : Y.frozen? ⟨V.heap.size, 0, none⟩ = false := by rw [← hY]; have := (there_row (n := 1) (heap_alloc_last V (.cells #[.int .i64 c] 2)) rfl 0 (by omega)).2; rwa [Nat.zero_add] at this
  rw [hY]
  have Y2 := range_kept V2 hNV _ hbY
  have YT := VT.below hbY hgw
  have BY := Lib.hid (BV.out.trans (hbY.mono (by omega)))
  rw [hM] at cS fS zY hNV hgw ⊢
  clear hY hbY V1 V2 VT BV hM
  go_wp2_with (go_at_call 58; refine (bitsIn_any mm _).mono ?_; rintro e w' ⟨rfl, rfl⟩)
  obtain ⟨U, hU⟩ : ∃ U, Y.alloc (.cells #[.int .u64 (mm : Int)] 25) = U := ⟨_, rfl⟩
  have hbU : Below Y.heap.size Y U := by rw [← hU]; exact (Below.refl _ _).alloc (Nat.le_refl _) _
  have cM : U.cell? ⟨Y.heap.size, 0, none⟩ = some (.int .u64 mm) := by rw [← hU]; exact cell_of_row _ _ 0 _ _ _ (heap_alloc_last Y _)
  have zU : Y.heap.size < U.heap.size := by rw [← hU]; simp
  have u2 := range_kept Y2 (by omega) _ hbU
  have u3 := kc cS zY _ hbU
  have u4 : U.frozen? ⟨M, 0, none⟩ = false := (hbU.frozen (p := ⟨M, 0, none⟩) zY).trans fS
  have BU := Lib.hid (BY.out.trans (hbU.mono (by omega)))
  have TU := YT.below hbU (by omega)
  rw [hU]
  clear hU hbU cS fS Y2 YT BY
  refine (wpIn_wide (n := 6)).1 (wp_bits 24 25 9 Y.heap.size M mm mm64 rfl cM TU (by omega) (by omega)
    (fun pre W2 => ∃ a : Nat, a < 64 ∧ W2.cell? ⟨M, 0, none⟩ = some (.int .i64 a) ∧ W2.frozen? ⟨M, 0, none⟩ = false ∧ a = wst (balF G) c pre)
    (fun _ _ _ => False)
    (fun s A B h ⟨a, h0, h1, h2, h3⟩ => ⟨a, h0, h.cell h1, (h.frozen h1).trans h2, h3⟩) (fun _ _ _ _ _ h => h) ⟨c, hc64, u3, u4, rfl⟩ ?assign ?body ?done ?stop)
  case assign =>
    intro l x W K hK
    simp only [List.setIfInBounds_toArray, List.set_cons_zero, List.set_cons_succ] at hK ⊢
    gi_wp2
    exact hK
  case body =>
    rintro l pre x W2 ⟨a, ha64, h1, h2, h3⟩ hB2 _ hx64
    simp only [List.setIfInBounds_toArray, List.set_cons_zero, List.set_cons_succ]
    have cN := Grd_fld (range_kept u2 (by omega) _ hB2) x.1 hx64
    have cA := Grd_fld (range_kept u2 (by omega) _ hB2) a ha64
    gi_upto_region 10 with (fail)
    refine wpIn_region_calm (ops' := regOf Tryd.f19 10) [0, 1, 2, 3, 4, 5, 6, 7, 8] [] .fin (Quiet W2) [(0, One (.int .i64 (x.1 : Int))), (1, One (.pointer (some ⟨N, 0 + x.1, none⟩))), (2, One (.float .f32 (balF G x.1))), (3, Numv .f32 (sizeO (num .f32 (balF G x.1)))), (4, One (.int .i64 (a : Int))), (5, One (.pointer (some ⟨N, 0 + a, none⟩))), (6, One (.float .f32 (balF G a))), (7, Numv .f32 (sizeO (num .f32 (balF G a)))), (8, One (.bool (gtS (balF G) x.1 a)))] (by kernel_rfl) (by kernel_rfl) (by kernel_rfl) (by kernel_rfl) (by kernel_rfl) (by kernel_rfl) (by kernel_rfl) (by kernel_rfl) (by kernel_rfl) rfl ((Quiet.refl _).drewN 1) ?_
    refine calm_pure (some 26) (by kernel_rfl) (by kernel_rfl) (by kernel_rfl) (fun _ => by kernel_rfl) ?_
    refine calm_pure (some 27) (by kernel_rfl) (by kernel_rfl) (by kernel_rfl) (index_fld (x := .tmp 5) (y := .tmp 26) (o := 0) (by kernel_rfl) (by kernel_rfl) (by kernel_rfl) hx64) ?_
    refine calm_read (some 28) (by kernel_rfl) (by kernel_rfl) (by kernel_rfl) (fun w' hw' => load_cell (ty := 23) (x := .tmp 27) (b := N) (o := 0 + x.1) (by kernel_rfl) (by kernel_rfl) Tryd.underlying23 rfl (kq cN w' hw')) ?_
    refine calm_call (some 29) 59 #[.float .f32 (balF G x.1)] (numv_ne (size_ex (balF G x.1))) (by kernel_rfl) (by kernel_rfl) (by kernel_rfl) (fun _ => by kernel_rfl) (fun w' hw' => (sizeOf_any (balF G x.1) w').mono fun e w2 ⟨r, he, hr, hq⟩ => ⟨_, he, ⟨r, rfl, hr⟩, hw'.trans hq⟩) ?_
    rintro _ ⟨r32, rfl, hr32⟩
    refine calm_read (some 30) (by kernel_rfl) (by kernel_rfl) (by kernel_rfl) (fun w' hw' => load_cell (ty := 2) (x := .tmp 8) (b := M) (o := 0) (by kernel_rfl) (by kernel_rfl) Tryd.underlying2 rfl (kq h1 w' hw')) ?_
    refine calm_pure (some 31) (by kernel_rfl) (by kernel_rfl) (by kernel_rfl) (index_fld (x := .tmp 5) (y := .tmp 30) (o := 0) (by kernel_rfl) (by kernel_rfl) (by kernel_rfl) ha64) ?_
    refine calm_read (some 32) (by kernel_rfl) (by kernel_rfl) (by kernel_rfl) (fun w' hw' => load_cell (ty := 23) (x := .tmp 31) (b := N) (o := 0 + a) (by kernel_rfl) (by kernel_rfl) Tryd.underlying23 rfl (kq cA w' hw')) ?_
    refine calm_call (some 33) 59 #[.float .f32 (balF G a)] (numv_ne (size_ex (balF G a))) (by kernel_rfl) (by kernel_rfl) (by kernel_rfl) (fun _ => by kernel_rfl) (fun w' hw' => (sizeOf_any (balF G a) w').mono fun e w2 ⟨r, he, hr, hq⟩ => ⟨_, he, ⟨r, rfl, hr⟩, hw'.trans hq⟩) ?_
    rintro _ ⟨r36, rfl, hr36⟩
    refine calm_pure (some 34) (by kernel_rfl) (by kernel_rfl) (by kernel_rfl) (fun _ => by rw [← gtS_is hr32 hr36]; kernel_rfl) ?_
    refine calm_end fun w' hw' => plan_end (Clean.normal ?_)
    have h1' := kq h1 w' hw'
    have h2' : w'.frozen? ⟨M, 0, none⟩ = false := by obtain ⟨n, rfl⟩ := hw'; exact h2
    have E := wst_snoc (balF G) c (nos pre) x.1
    rw [← h3] at E
    simp only [Act.put, List.setIfInBounds_toArray, List.set_cons_zero, List.set_cons_succ]
    cases hg : gtS (balF G) x.1 a
    · rw [hg] at E
      have E' := Lib.hid E
      have H1 := Lib.hid h1'
      have HB2 := Lib.hid hB2
      clear E h1 h1' h3 hB2 cN cA
      gi_wp2
      exact ⟨KeepsOthers.of_below' (hw'.below _), hw'.below _, ⟨a, ha64, H1.out, h2', by rw [nos_snoc, E'.out]; rfl⟩, HB2.out.trans (hw'.below _)⟩
    · rw [hg] at E
      have E' := Lib.hid E
      have H3 := Lib.hid (World.cell?_setCell_same' w' ⟨M, 0, none⟩ (.int .i64 x.1) (by rw [h1']; rfl))
      have k2 := Lib.hid ((hw'.below M).setCell (p := ⟨M, 0, none⟩) (Nat.le_refl _) (.int .i64 x.1))
      have k1 := Lib.hid ((KeepsOthers.of_below' (hw'.below W2.heap.size)).trans (KeepsOthers.setCell w' ⟨M, 0, none⟩ (.int .i64 x.1)))
      have HB2 := Lib.hid hB2
      clear E h1 h3 hB2 cN cA
      gi_wp2
      exact ⟨k1.out, k2.out, ⟨x.1, hx64, H3.out, by rw [World.frozen?_setCell]; exact h2', by rw [nos_snoc, E'.out]; rfl⟩, HB2.out.trans k2.out⟩
  case done =>
    rintro D W2 hD ⟨a, ha64, h1, h2, h3⟩ hB2 hK
    have cA := Grd_fld (range_kept u2 (by omega) _ hB2) a ha64
    have HR := Lib.hid (show wst (balF G) c r = a by
      rw [h3, HL.out]
      show wst (balF G) c r = wst (balF G) (if gtS (balF G) c c = true then c else c) r
      rw [gtS_self]; rfl)
    have HB3 := Lib.hid (BU.out.trans (hB2.mono (by omega)))
    have hwD : w.heap.size ≤ D := by omega
    clear h2 h3 u2 u3 u4 cM TU hB2 hD
    go_upto_region 12 with (fail)
    refine wp_region_calm (ops' := regOf Tryd.f19 12) [0, 1, 2, 3, 4, 5, 6] [] .fin (Quiet W2) [(0, One (.int .i64 (a : Int))), (1, One (.int .i64 (a : Int))), (2, One (.pointer (some ⟨N, 0 + a, none⟩))), (3, One (.float .f32 (balF G a))), (4, One (.int .i64 (a : Int))), (5, One (.float .f32 (balF G a))), (6, One (.int .i64 0))] (by kernel_rfl) (by kernel_rfl) (by kernel_rfl) (by kernel_rfl) (by kernel_rfl) (by kernel_rfl) (by kernel_rfl) (by kernel_rfl) rfl ((Quiet.refl _).drewN 1) ?_
    refine calm_read (some 36) (by kernel_rfl) (by kernel_rfl) (by kernel_rfl) (fun w' hw' => load_cell (ty := 2) (x := .tmp 8) (b := M) (o := 0) (by kernel_rfl) (by kernel_rfl) Tryd.underlying2 rfl (kq h1 w' hw')) ?_
    refine calm_read (some 37) (by kernel_rfl) (by kernel_rfl) (by kernel_rfl) (fun w' hw' => load_cell (ty := 2) (x := .tmp 8) (b := M) (o := 0) (by kernel_rfl) (by kernel_rfl) Tryd.underlying2 rfl (kq h1 w' hw')) ?_
    refine calm_pure (some 38) (by kernel_rfl) (by kernel_rfl) (by kernel_rfl) (index_fld (x := .tmp 5) (y := .tmp 37) (o := 0) (by kernel_rfl) (by kernel_rfl) (by kernel_rfl) ha64) ?_
    refine calm_read (some 39) (by kernel_rfl) (by kernel_rfl) (by kernel_rfl) (fun w' hw' => load_cell (ty := 23) (x := .tmp 38) (b := N) (o := 0 + a) (by kernel_rfl) (by kernel_rfl) Tryd.underlying23 rfl (kq cA w' hw')) ?_
    refine calm_pure (some 2) (by kernel_rfl) (by kernel_rfl) (by kernel_rfl) (fun _ => by kernel_rfl) ?_
    refine calm_pure (some 3) (by kernel_rfl) (by kernel_rfl) (by kernel_rfl) (fun _ => by kernel_rfl) ?_
    refine calm_pure (some 4) (by kernel_rfl) (by kernel_rfl) (by kernel_rfl) (fun _ => by kernel_rfl) ?_
    refine calm_end fun w' hw' => plan_end (Clean.normal ?_)
    simp only [Act.put, List.setIfInBounds_toArray, List.set_cons_zero, List.set_cons_succ]
    go_wp2
    exact ret_marks (by obtain ⟨n, rfl⟩ := hw'; exact hK) (fun W' _ => by simp [results, Tryd.results19, go_sem] <;> rfl) (fun W' _ hb => ⟨by rw [HR.out]; rfl, (HB3.out.trans (hw'.below _)).trans (hb _ hwD)⟩)
  case stop =>
    rintro D c pre W _ _ h _ _
    exact h.elim

set_option maxRecDepth 100000 in
theorem implWorst_any (G : Gd) (w : World) (hG : GdOk G) (hT : TabAt w) :
    Calls Tryd.prog 19 #[.agg (Grd G)] w fun e w' => e = .returned (worstV G) ∧ Below w.heap.size w w' := by
  cases hv : validB G
  · rw [show worstV G = IFI 0 0 1 by simp [worstV, hv]]
    exact implWorst_bad G zf 1 (by decide) (by simp [balsV, hv, FN]) w hG hT
  · cases ha : allFin G
    · rw [show worstV G = IFI 0 0 4 by simp [worstV, hv, ha]]
      exact implWorst_bad G zf 4 (by decide) (by simp [balsV, hv, ha, FN]) w hG hT
    · have hV : balsV G = .tuple #[.agg (Fld (balF G)), .int .i64 0] := by simp [balsV, hv, ha, FN]
      cases hf : freeTo G 64 with
      | nil =>
        rw [show worstV G = IFI 0 0 6 by simp [worstV, hv, ha, hf, wsN]]
        exact implWorst_none G _ hV w hG hT hv hf
      | cons c r =>
        rw [show worstV G = IFI (wst (balF G) c r : Int) (balF G (wst (balF G) c r)) 0 by
          have : ¬ ((wst (balF G) c r : Int) = -1) := by omega
          simp [worstV, hv, ha, hf, wsN, this]]
        exact implWorst_good G hV w hG hT hv c r hf
end Go.Proofs.YtdhnneidkdoplaaDoor
