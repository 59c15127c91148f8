/- SafeStep: the program's. Condition: the table of math/bits is laid. -/
import Derived.Test.YtikefaollfaejaaDoorBrSp
import Derived.Test.YtikefaollfaejaaDoorSaS
import Derived.Test.YtikefaollfaejaaDoorSweepI
namespace Go.Proofs.YtikefaollfaejaaDoor
open Go.RowKit Go.Shelf
attribute [local go_sem] Oper.semAt_some run_store_float
set_option linter.unusedSimpArgs false
set_option linter.unusedVariables false

theorem maxN_word {a b : Nat} (ha : a ≤ 2139095040) (hb : b ≤ 2139095040) : maxN a b = max a b := by
  unfold maxN
  rw [show FloatKind.f32.format.order a b = some (compare a b) from word_order ha hb]
  rcases Nat.lt_trichotomy a b with h | h | h
  · rw [if_pos (by simp [compare, compareOfLessAndEq, h])]
    omega
  · subst h
    rw [if_neg (by simp [compare, compareOfLessAndEq])]
    omega
  · rw [if_neg (by simp only [compare, compareOfLessAndEq, if_neg (show ¬ a < b by omega), if_neg (show ¬ a = b by omega)]; simp)]
    omega
theorem eq0_word {a : Nat} (ha : a ≤ 2139095040) : (FloatKind.f32.format.order a 0 == some Ordering.eq) = decide (a = 0) := by
  rw [show FloatKind.f32.format.order a 0 = some (compare a 0) from word_order ha (by omega)]
  rcases Nat.eq_zero_or_pos a with h | h
  · subst h; rfl
  · rw [show decide (a = 0) = false by simp; omega]
    simp only [compare, compareOfLessAndEq, if_neg (show ¬ a < 0 by omega), if_neg (show ¬ a = 0 by omega)]
    rfl
theorem free_list {G : Gd} (hG : GdOk G) : bitsL (freeN G) = frO G 64 := by
  unfold bitsL frO
  refine List.filter_congr fun i hi => ?_
  exact (freeN_is hG).2.2 i (by simpa using hi)
/-- A pair of pointers, made and stored, and a number behind it. -/
theorem sol_put (p : Nat) (V : World) (t : TypeId) : ∃ X, (V.alloc (.cells #[.pointer none, .pointer none] t)).setCells V.heap.size 0 #[Value.pointer (some ⟨p, 0, none⟩), Value.pointer (some ⟨p, 0, none⟩)].toList = X ∧ X.heap.size = V.heap.size + 1 ∧ X.rangeAt V.heap.size 0 #[Value.pointer (some ⟨p, 0, none⟩), Value.pointer (some ⟨p, 0, none⟩)].toList ∧ Below V.heap.size V X := by
  obtain ⟨W, hW, z, r, th, b⟩ := one_boxT #[.pointer none, .pointer none] t V
  rw [hW]
  exact ⟨_, rfl, by rw [size_setCells, z], World.rangeAt_setCells_same _ _ _ _ th, below_setCells _ (Nat.le_refl _) _ _ _ b⟩
theorem num_put (V : World) (t : TypeId) (u v : Nat) : ∃ X, (V.alloc (.cells #[.float .f32 u] t)).setCell ⟨V.heap.size, 0, none⟩ (.float .f32 v) = X ∧ X.heap.size = V.heap.size + 1 ∧ X.cell? ⟨V.heap.size, 0, none⟩ = some (.float .f32 v) ∧ X.frozen? ⟨V.heap.size, 0, none⟩ = false ∧ Below V.heap.size V X := by
  obtain ⟨W, hW, z, r, th, b⟩ := one_boxT #[.float .f32 u] t V
  rw [hW]
  have c := r 0 _ rfl
  have f := (th 0 (by simp)).2
  rw [Nat.zero_add] at c f
  refine ⟨_, rfl, by simpa [World.setCell] using z, World.cell?_setCell_same' _ _ _ (by rw [c]; rfl), ?_, b.setCell (p := ⟨V.heap.size, 0, none⟩) (Nat.le_refl _) _⟩
  rw [World.frozen?_setCell]; exact f

set_option maxRecDepth 100000 in
set_option maxHeartbeats 4000000 in
theorem implSafe_any (B : Brn) (w : World) (hG : BrnOk B) (hT : TabAt w) :
    Calls Tryd.prog 6 #[.agg (BrnA B)] w fun e w' => e = .returned (safeV B) ∧ Below w.heap.size w w' := by
  have m64 := (freeN_is hG.g).2.1
  cases hv : brnB B
  · have Hv := Lib.hid hv
    have R := Lib.hid (show safeV B = FI 0 1 by unfold safeV; rw [hv]; rfl)
    clear hv
    go_enter Tryd.func6, Tryd.ntmps6
    go_upto_region 1 with (fail)
    obtain ⟨W, hW, hs, b1, hB⟩ := bbox1 B 36 w
    rw [hW]
    clear hW
    have r1 := b1.range
    have B1 := Lib.hid b1
    have HB := Lib.hid hB
    have HG := Lib.hid hG
    have TW := Lib.hid (hT.below hB (tab_lt hT))
    have hl : w.heap.size < W.heap.size := by omega
    have hgl := tab_lt hT
    clear b1 hB hG hT hs
    go_wp2_with (first | (refine ld_stage 36 rfl ?_; refine wpList_load_mid rfl 36 _ rfl (w.heap.size) 0 rfl (BrnL B) _ r1 Tryd.underlying36 rfl (by rw [BrnL_length]; exact infoBrine) ?_) | (go_at_call 14; have hc := (implValidB_any B W HG.out TW.out); rw [Hv.out] at hc; refine hc.mono ?_; clear hc; rintro e V ⟨rfl, hb1⟩; have Hb1 := Lib.hid hb1; clear hb1))
    go_ret2
    exact ⟨congrArg Ending.returned R.out.symm, HB.out.trans (Hb1.out.mono (by omega))⟩
  have HV := Lib.hid (brn_valid hv)
  have Hv := Lib.hid hv
  have R := Lib.hid (show safeV B = (if mxO B.G (frO B.G 64) = 0 then FI 0 6 else if plainB (safeN B (mxO B.G (frO B.G 64))) = true then FI (safeN B (mxO B.G (frO B.G 64))) 0 else FI 0 4) by unfold safeV; rw [hv]; rfl)
  clear hv
  refine (callsIn_wide (n := 6)).1 (callsIn_of_wp_marks Tryd.func6 rfl trivial ?_ rfl)
  simp only [Tryd.ntmps6, List.size_toArray, List.length_cons, List.length_nil, Nat.reduceAdd, Nat.reduceSub, Array.replicate_succ, Array.replicate_zero, List.push_toArray, List.append_toArray, List.nil_append, List.cons_append]
  refine wpIn_wide.2 ?_
  go_upto_region 1 with (fail)
  obtain ⟨W, hW, hs, b1, hB⟩ := bbox1 B 36 w
  rw [hW]
  clear hW
  have r1 := b1.range
  have B1 := Lib.hid b1
  have HB := Lib.hid hB
  have HG := Lib.hid hG
  have TW := Lib.hid (hT.below hB (tab_lt hT))
  have hl : w.heap.size < W.heap.size := by omega
  have hgl := tab_lt hT
  clear b1 hB hG hT hs
  go_upto_region 3 with (first | (refine ld_stage 36 rfl ?_; refine wpList_load_mid rfl 36 _ rfl (w.heap.size) 0 rfl (BrnL B) _ r1 Tryd.underlying36 rfl (by rw [BrnL_length]; exact infoBrine) ?_) | (go_at_call 14; have hc := (implValidB_any B W HG.out TW.out); rw [Hv.out] at hc; refine hc.mono ?_; clear hc; rintro e V ⟨rfl, hb1⟩; have Hb1 := Lib.hid hb1; clear hb1))
  have zV := Hb1.out.size
  have BV := Lib.hid (B1.out.below Hb1.out (by omega))
  have TV := Lib.hid (TW.out.below Hb1.out (tab_lt TW.out))
  have HVl := Lib.hid (HB.out.trans (Hb1.out.mono (by omega)))
  clear B1 TW HB r1
  go_upto_region 4 with (first | (go_at_call 15; refine (dissolved_any w.heap.size _).mono ?_; rintro e V1 ⟨rfl, hd⟩; have HD := Lib.hid hd; clear hd) | (refine st_stage 51 rfl ?_; refine wpList_store_mid rfl 51 _ _ rfl _ 0 (#[Value.pointer (some ⟨w.heap.size, 0, none⟩), Value.pointer (some ⟨w.heap.size, 0, none⟩)]) rfl rfl (there_row (heap_alloc_last V1 _) rfl) (by kernel_rfl) (by kernel_rfl) ?_; obtain ⟨X, hX, zX, rX, hbX⟩ := sol_put w.heap.size V1 51; rw [hX]; clear hX))
  have zd := HD.out.size
  have hb2 := Lib.hid (HD.out.trans (hbX.mono zd))
  obtain ⟨M, hM⟩ : ∃ M, V1.heap.size = M := ⟨_, rfl⟩
  rw [hM] at rX zX ⊢
  have hl2 : V.heap.size ≤ M := by omega
  clear hbX HD zd
  go_upto_region 5 with (fail)
  obtain ⟨Y, hY, zY, cY0, uY, hbY⟩ := one_boxT #[.float .f32 0] 23 X
  have HM := Lib.hid hM
  rw [zX] at cY0 uY zY
  have cY := cY0 0 _ rfl
  have fY := (uY 0 (by simp)).2
  rw [Nat.zero_add] at cY fY
  rw [hY]
  clear hY hM cY0 uY
  have y1 := range_kept rX (by omega) _ hbY
  have bY := Lib.hid (hb2.out.trans (hbY.mono (by omega)))
  have PY := Lib.hid ((BV.out.below bY.out (by omega)).at')
  have TY := Lib.hid (TV.out.below bY.out (tab_lt TV.out))
  have HY := Lib.hid (HVl.out.trans (bY.out.mono (by omega)))
  have y0 := y1 0 _ rfl
  rw [Nat.add_zero] at y0
  clear rX hbY hb2 BV TV HVl bY
  go_upto_region 6 with (first | (go_at_call 17; refine (free_any B.G HV.out w.heap.size Y PY.out.g HG.out.g).mono ?_; rintro e w1 ⟨rfl, hq⟩; have HQ := Lib.hid hq; clear hq) | (go_at_call 16; refine (bitsIn_any (freeN B.G) _).mono ?_; rintro e w' ⟨rfl, rfl⟩))
  have zq := HQ.out.size
  obtain ⟨Z, hZ, zZ, rZ, uZ, hbZ⟩ := one_boxT #[.int .u64 (freeN B.G)] 25 w1
  rw [hZ]
  have hm0 := rZ 0 _ rfl
  rw [Nat.zero_add] at hm0
  have bYZ : Below Y.heap.size Y Z := (HQ.out.below _).trans (hbZ.mono (by omega))
  have y1 := range_kept y1 (by omega) _ bYZ
  have cY := kc cY (by omega) _ bYZ
  have fY := (bYZ.frozen (p := ⟨(M + 1), 0, none⟩) (by simp <;> omega)).trans fY
  have PZ := Lib.hid (PY.out.below bYZ (by omega))
  have TZ := TY.out.below bYZ (tab_lt TY.out)
  have HZ := Lib.hid (HY.out.trans (bYZ.mono (by omega)))
  have hFL := Lib.hid (free_list HG.out.g)
  clear hZ rZ uZ hbZ PY TY HY HQ bYZ y0
  refine (wpIn_wide (n := 6)).1 (wp_bits 15 16 6 w1.heap.size (M + 1) (freeN B.G) m64 rfl hm0 TZ (by omega) (by omega)
    (fun pre W2 => W2.cell? ⟨(M + 1), 0, none⟩ = some (.float .f32 (mxO B.G pre)) ∧ W2.frozen? ⟨(M + 1), 0, none⟩ = false ∧ Z.heap.size ≤ W2.heap.size) (fun _ _ _ => False)
    (fun s A B' h ⟨h1, h2, h4⟩ => ⟨h.cell h1, (h.frozen h1).trans h2, Nat.le_trans h4 h.size⟩) (fun _ _ _ _ _ h => h) ⟨cY, fY, Nat.le_refl _⟩ ?assign ?body ?done ?stop)
  case assign =>
    intro l x W K hK
    simp only [List.setIfInBounds_toArray, List.set_cons_zero, List.set_cons_succ] at hK ⊢
    gi_wp2
    exact hK
  case body =>
    rintro l pre y W2 ⟨h1, h2, h4⟩ hB2 hbit hi
    simp only [List.setIfInBounds_toArray, List.set_cons_zero, List.set_cons_succ]
    have hN' : nos (pre ++ [y]) = nos pre ++ [y.1] := nos_snoc _ _
    generalize y.1 = i at hi hN' hbit ⊢
    have E := Lib.hid (show mxO B.G (nos (pre ++ [y])) = max (mxO B.G (nos pre)) (outN B.G i) by rw [hN', mxO_snoc])
    have h3 := mxO_le B.G (nos pre)
    obtain ⟨ho1, hul⟩ := outO_word B.G i
    generalize mxO B.G (nos pre) = m at h1 h3 E
    generalize outN B.G i = u at ho1 hul E
    have HO := Lib.hid ho1
    have y1 := range_kept y1 (by omega) _ hB2
    have PB := Lib.hid (PZ.out.below hB2 (by omega))
    have HB2 := Lib.hid hB2
    have hi2 : (i : Int) < 64 := by omega
    clear hN' hB2 hbit ho1
    refine wpIn_block ?_
    gi_upto_region 7 with (fail)
    refine wpIn_region_calm (ops' := regOf Tryd.f6 7) [0, 1, 2, 3, 4] [5] (.run 5 .fin) (Below (W2.heap.size) W2) [(0, One (.float .f32 m)), (1, One (.agg (#[Value.pointer (some ⟨w.heap.size, 0, none⟩), Value.pointer (some ⟨w.heap.size, 0, none⟩)]))), (2, One (.int .i64 (i : Int))), (3, Numv .f32 (outO B.G i)), (4, One (.float .f32 (maxN m u)))] (by kernel_rfl) (by kernel_rfl) (by kernel_rfl) (by kernel_rfl) (by kernel_rfl) (by kernel_rfl) (by kernel_rfl) (by kernel_rfl) (by kernel_rfl) rfl ((Below.refl _ _).drew) ?_
    refine calm_read (some 17) (by kernel_rfl) (by kernel_rfl) (by kernel_rfl) (fun w' hw' => load_cell (ty := 23) (x := .tmp 5) (b := (M + 1)) (o := 0) (by kernel_rfl) (by kernel_rfl) Tryd.underlying23 rfl (kc h1 (by omega) w' hw')) ?_
    refine calm_load (some 18) 51 (.tmp 4) (M) 0 _ (by kernel_rfl) (by kernel_rfl) (by kernel_rfl) (by kernel_rfl) (by kernel_rfl) (range_kept y1 (by omega)) Tryd.underlying51 rfl (by kernel_rfl) ?_
    refine calm_pure (some 19) (by kernel_rfl) (by kernel_rfl) (by kernel_rfl) (fun _ => by kernel_rfl) ?_
    refine calm_call (some 20) 18 #[.agg (#[Value.pointer (some ⟨w.heap.size, 0, none⟩), Value.pointer (some ⟨w.heap.size, 0, none⟩)]), .int .i64 (i : Int)] (numv_ne (outO_ex B.G i)) (by kernel_rfl) (by kernel_rfl) (by kernel_rfl) (fun _ => by kernel_rfl) (fun w' hw' => ((implOut_any B i hi HV.out w.heap.size w' (PB.out.below hw' (by omega)) (by have := hw'.size; omega) HG.out)).mono fun e w2 ⟨r, he, hr, hq⟩ => ⟨_, he, ⟨r, rfl, hr⟩, below_step hw' hq (by have := hw'.size; omega)⟩) ?_
    rintro _ ⟨r20, rfl, hr20⟩
    refine calm_pure (some 21) (by kernel_rfl) (by kernel_rfl) (by kernel_rfl) (fun _ => by have hc := num_eq_some (hr20.trans HO.out); rw [← hc.1]; exact max_op (p := .tmp 17) (q := .tmp 20) (ts := #[23, 23]) _ (by kernel_rfl) (by kernel_rfl) (by kernel_rfl) (word_notnan h3) (by rw [hc.1]; exact word_notnan hul) (by omega)) ?_
    refine calm_end fun w' hw' => ?_
    have hc := num_eq_some (hr20.trans HO.out)
    have hmx : maxN m u = max m u := maxN_word h3 hul
    have hcm := kc h1 (by omega) _ hw'
    have hfm := (hw'.frozen (p := ⟨(M + 1), 0, none⟩) (by simp <;> omega)).trans h2
    refine plan_do none undef (w'.setCell ⟨(M + 1), 0, none⟩ (.float .f32 (maxN m u))) (by kernel_rfl) (by kernel_rfl) (by kernel_rfl) (.inr ⟨store_f32 (x := .tmp 5) (y := .tmp 21) (by kernel_rfl) (by kernel_rfl) (by kernel_rfl) infoF32 hcm hfm, rfl⟩) trivial (plan_end (Clean.normal ?_))
    rw [hmx]
    obtain ⟨U, hU⟩ : ∃ U, w'.setCell ⟨(M + 1), 0, none⟩ (.float .f32 (max m u)) = U := ⟨_, rfl⟩
    have u1 := Lib.hid (show U.cell? ⟨(M + 1), 0, none⟩ = some (.float .f32 (max m u)) by rw [← hU]; exact World.cell?_setCell_same' _ _ _ (by rw [hcm]; rfl))
    have u2 := Lib.hid (show U.frozen? ⟨(M + 1), 0, none⟩ = false by rw [← hU, World.frozen?_setCell]; exact hfm)
    have UB := Lib.hid (show Below (M + 1) W2 U by rw [← hU]; exact (hw'.mono (show (M + 1) ≤ W2.heap.size by omega)).setCell (p := ⟨(M + 1), 0, none⟩) (Nat.le_refl _) _)
    have UK := Lib.hid (show KeepsOthers W2 U by rw [← hU]; exact KeepsOthers.trans (B := w') (KeepsOthers.of_below' hw') (KeepsOthers.setCell _ _ _))
    have Us : W2.heap.size ≤ U.heap.size := by rw [← hU]; simpa [World.setCell] using hw'.size
    rw [hU]
    clear hU hw' h1 h2 hcm hfm hmx hc hr20 y1
    simp only [Act.put, List.setIfInBounds_toArray, List.set_cons_zero, List.set_cons_succ]
    gi_wp2
    exact ⟨UK.out, UB.out, ⟨by rw [E.out]; exact u1.out, u2.out, by omega⟩, HB2.out.trans UB.out⟩
  case done =>
    rintro D W2 hD ⟨h1, h2, h4⟩ hB2 hK
    have y2 := (range_kept y1 (by omega) _ hB2) 1 _ rfl
    have y1 := range_kept y1 (by omega) _ hB2
    have cr := (PZ.out.below hB2 (by omega)).r0
    rw [hFL.out] at h1
    have hml := mxO_le B.G (frO B.G 64)
    have HB3 := Lib.hid (HZ.out.trans (hB2.mono (by omega)))
    have hwD : w.heap.size ≤ D := by omega
    have HK := Lib.hid hK
    have SF := Lib.hid (fun h0 => safe_fop Hv.out (m := mxO B.G (frO B.G 64)) h0 hml)
    generalize mxO B.G (frO B.G 64) = m at h1 R hml SF
    have he := eq0_word hml
    by_cases h0 : m = 0
    · have V1 := R.out
      rw [if_pos h0] at V1
      have VV := Lib.hid V1
      rw [show decide (m = 0) = true by simpa using h0] at he
      clear R V1 SF hB2 hK
      go_wp2
      have HKK := HK.out
      have HB4 := HB3
      exact ret_marks HKK (fun W' _ => by simp [results, Tryd.results6, go_sem] <;> rfl) (fun W' _ hb => ⟨congrArg Ending.returned VV.out.symm, HB4.out.trans (hb _ hwD)⟩)
    · have V1 := R.out
      rw [if_neg h0] at V1
      rw [show decide (m = 0) = false by simpa using h0] at he
      have S2 := Lib.hid (SF.out (by omega))
      clear R SF hB2 hK
      go_upto_region 10 with (fail)
      refine wp_region_calm (ops' := regOf Tryd.f6 10) [0, 1, 2, 3, 4, 5, 6, 7, 8] [] .fin (Quiet W2) [(0, One (.pointer (some ⟨M, 1, none⟩))), (1, One (.pointer (some ⟨w.heap.size, 0, none⟩))), (2, One (.pointer (some ⟨w.heap.size, 0, none⟩))), (3, One (.pointer (some ⟨w.heap.size, 323, none⟩))), (4, One (.float .f32 B.r)), (5, One (.float .f32 m)), (6, Numv .f32 (fop .f32 .mul (num .f32 1073741824) (num .f32 m))), (7, Numv .f32 (fop .f32 .quo (num .f32 (B.r)) (fop .f32 .mul (num .f32 1073741824) (num .f32 m)))), (8, Numv .f32 (fop .f32 .quo (num .f32 (B.r)) (fop .f32 .mul (num .f32 1073741824) (num .f32 m))))] (by kernel_rfl) (by kernel_rfl) (by kernel_rfl) (by kernel_rfl) (by kernel_rfl) (by kernel_rfl) (by kernel_rfl) (by kernel_rfl) rfl ((Quiet.refl _).drewN 1) ?_
      refine calm_pure (some 24) (by kernel_rfl) (by kernel_rfl) (by kernel_rfl) (fun _ => by kernel_rfl) ?_
      refine calm_read (some 25) (by kernel_rfl) (by kernel_rfl) (by kernel_rfl) (fun w' hw' => load_cell (ty := 42) (x := .tmp 24) (b := M) (o := 1) (by kernel_rfl) (by kernel_rfl) Tryd.underlying42 rfl (kq y2 w' hw')) ?_
      refine calm_pure (some 26) (by kernel_rfl) (by kernel_rfl) (by kernel_rfl) (fun _ => by kernel_rfl) ?_
      refine calm_pure (some 27) (by kernel_rfl) (by kernel_rfl) (by kernel_rfl) (fun _ => by kernel_rfl) ?_
      refine calm_read (some 28) (by kernel_rfl) (by kernel_rfl) (by kernel_rfl) (fun w' hw' => load_cell (ty := 23) (x := .tmp 27) (b := w.heap.size) (o := 323) (by kernel_rfl) (by kernel_rfl) Tryd.underlying23 rfl (kq cr w' hw')) ?_
      refine calm_read (some 29) (by kernel_rfl) (by kernel_rfl) (by kernel_rfl) (fun w' hw' => load_cell (ty := 23) (x := .tmp 5) (b := (M + 1)) (o := 0) (by kernel_rfl) (by kernel_rfl) Tryd.underlying23 rfl (kq h1 w' hw')) ?_
      refine calm_float (some 30) .f32 .mul 23 23 ((.const (.float .f32 1073741824))) (.tmp 29) (1073741824) (m) (by kernel_rfl) (by kernel_rfl) (by kernel_rfl) (by kernel_rfl) rfl (by kernel_rfl) (by kernel_rfl) (fun _ n h => h.drewN n) (rfl) ?_
      intro r30 hr30
      refine calm_float (some 31) .f32 .quo 23 23 (.tmp 28) (.tmp 30) (B.r) (r30) (by kernel_rfl) (by kernel_rfl) (by kernel_rfl) (by kernel_rfl) rfl (by kernel_rfl) (by kernel_rfl) (fun _ n h => h.drewN n) (fop_eq (rfl) hr30) ?_
      intro r31 hr31
      refine calm_pureV (some 7) (.float .f32 r31) ⟨_, rfl, hr31⟩ (by kernel_rfl) (by kernel_rfl) (by kernel_rfl) (fun _ => by kernel_rfl) ?_
      rintro _ ⟨r7, rfl, hr7⟩
      refine calm_end fun w' hw' => plan_end (Clean.normal ?_)
      obtain ⟨e7, -⟩ := num_eq_some (hr7.trans S2.out)
      rw [← e7] at V1
      have HB4 := Lib.hid (HB3.out.trans (hw'.below _))
      have HKK := (Quiet.heap hw').trans HK.out
      clear hw' hr7 hr30 hr31 h1 h2 y1 y2 cr e7
      simp only [Act.put, List.setIfInBounds_toArray, List.set_cons_zero, List.set_cons_succ]
      cases hp : plainB r7
      · rw [hp, if_neg (by simp)] at V1
        have VV := Lib.hid V1
        have Hp := Lib.hid hp
        clear V1 hp
        go_wp2_with (go_at_call 19; refine (isPlain_is r7 false Hp.out _).mono ?_; rintro e w9 ⟨rfl, rfl⟩)
        exact ret_marks HKK (fun W' _ => by simp [results, Tryd.results6, go_sem] <;> rfl) (fun W' _ hb => ⟨congrArg Ending.returned VV.out.symm, HB4.out.trans (hb _ hwD)⟩)
      · rw [hp, if_pos rfl] at V1
        have VV := Lib.hid V1
        have Hp := Lib.hid hp
        clear V1 hp
        go_wp2_with (go_at_call 19; refine (isPlain_is r7 true Hp.out _).mono ?_; rintro e w9 ⟨rfl, rfl⟩)
        exact ret_marks HKK (fun W' _ => by simp [results, Tryd.results6, go_sem] <;> rfl) (fun W' _ hb => ⟨congrArg Ending.returned VV.out.symm, HB4.out.trans (hb _ hwD)⟩)
  case stop =>
    rintro D c pre W _ _ h _ _
    exact h.elim
end Go.Proofs.YtikefaollfaejaaDoor
