/- SaltIn: both sides. Condition (the program's): the table of math/bits is laid. -/
import Derived.Test.YtjmekgogaiokpaaDoorBrFr
namespace Go.Proofs.YtjmekgogaiokpaaDoor
open Go.RowKit Go.Shelf
attribute [local go_sem] Oper.semAt_some run_store_float
set_option linter.unusedSimpArgs false
set_option linter.unusedVariables false

/-- How much salt there is in a cell. -/
def amtO (B : Brn) (i : Nat) : Option Nat := fop .f32 .mul (num .f32 (B.s i)) (num .f32 B.r)
def prodTo (B : Brn) : Nat → Option Nat
  | 0 => amtO B 0
  | k + 1 => if isB B.G (k + 1) = true then fop .f32 .add (prodTo B k) (amtO B (k + 1)) else prodTo B k
theorem amtO_ex (B : Brn) (i : Nat) : ∃ r, num .f32 r = amtO B i := fop_ex _ _ rfl _ _ (num_ex _ _) (num_ex _ _)
theorem is_zero {G : Gd} (h : validB G = true) : isB G 0 = true := by
  obtain ⟨v1, v2, v3, v4⟩ := valid_ext h
  unfold isB
  simp
  omega
theorem prodTo_sum (B : Brn) (f : Nat → Nat) (h0 : isB B.G 0 = true) (h : ∀ i, i < 64 → isB B.G i = true → num .f32 (f i) = amtO B i) : ∀ k, k < 64 → sumTo B.G f k = prodTo B k := by
  intro k
  induction k with
  | zero => intro _; exact h 0 (by omega) h0
  | succ k ih =>
    intro hk
    unfold sumTo prodTo
    rw [ih (by omega)]
    cases hi : isB B.G (k + 1)
    · rfl
    · rw [if_pos rfl, if_pos rfl, h _ hk hi]
def saltInV (B : Brn) : Value := if brnB B = true then finV (prodTo B 63) else FI 0 1
theorem saltInV_is (B : Brn) : ∃ (b : Nat) (n : Int), saltInV B = .tuple #[.float .f32 b, .int .i64 n] := by
  unfold saltInV
  split
  · exact finV_is _
  · exact ⟨_, _, rfl⟩

set_option maxRecDepth 100000 in
set_option maxHeartbeats 4000000 in
theorem specSaltIn_any (B : Brn) (w : World) (hG : BrnOk B) :
    Calls Tryd.prog 34 #[.agg (BrnA B)] w fun e w' => e = .returned (saltInV B) ∧ Below w.heap.size w w' := by
  go_enter Tryd.func34, Tryd.ntmps34
  go_upto_region 1 with (fail)
  obtain ⟨W, hW, hs, b1, hB⟩ := bbox1 B 42 w
  rw [hW]
  clear hW
  have B1 := Lib.hid b1
  have HB := Lib.hid hB
  have HG := Lib.hid hG
  clear b1 hB hG
  cases hv : brnB B
  · have Hv := Lib.hid hv
    have R := Lib.hid (show saltInV B = FI 0 1 by unfold saltInV; rw [hv]; rfl)
    clear hv
    go_wp2_with (go_at_call 59; have hc := (l05Ok_any B (w.heap.size) W B1.out.at' HG.out); rw [Hv.out] at hc; refine hc.mono ?_; clear hc; rintro e w1 ⟨rfl, hq⟩; have HQ := Lib.hid hq; clear hq)
    go_ret2
    exact ⟨congrArg Ending.returned R.out.symm, HB.out.trans (HQ.out.below _)⟩
  · have Hv := Lib.hid hv
    have R := Lib.hid (show saltInV B = finV (prodTo B 63) by unfold saltInV; rw [hv]; rfl)
    clear hv
    go_upto_region 3 with (go_at_call 59; have hc := (l05Ok_any B (w.heap.size) W B1.out.at' HG.out); rw [Hv.out] at hc; refine hc.mono ?_; clear hc; rintro e w1 ⟨rfl, hq⟩; have HQ := Lib.hid hq; clear hq)
    have b2 := B1.out.below (HQ.out.below (w.heap.size + 1)) (by omega)
    have BW := Lib.hid b2
    have HB1 := Lib.hid (HB.out.trans (HQ.out.below _))
    have c0 := Grd_fld b2.s 0 (by omega)
    have cr := b2.r
    rw [Nat.add_zero] at c0
    clear B1 b2 HB HQ
    go_wp2_with (refine wpList_float rfl _ _ _ _ _ rfl rfl .f32 _ _ rfl rfl ?_; intro r0 n0 h0; have HP0 := Lib.hid (h0 : num .f32 r0 = prodTo B 0); clear h0)
    have HQ : Hid (Quiet w1 (w1.drewN n0)) := Lib.hid ⟨n0, rfl⟩
    clear c0 cr
    go_loopw [4, 5] (fun s i wr => ∃ k : Nat, k ≤ 63 ∧ i = .int .i64 ((k + 1 : Nat) : Int) ∧ (∃ b : Nat, s = .float .f32 b ∧ Hid (num .f32 b = prodTo B k)) ∧ Hid (Quiet w1 wr)) (fun _ i _ => 64 - (intOf i).toNat)
    case atStart => exact ⟨0, by omega, rfl, ⟨r0, rfl, HP0⟩, HQ⟩
    case round =>
      clear HP0 HQ
      obtain ⟨k, hk, rfl, ⟨b, rfl, hb⟩, HQ⟩ := hrel
      by_cases hlt : k + 1 < 64
      · have hk2 : ((k + 1 : Nat) : Int) < 64 := by omega
        cases hi : isB B.G (k + 1)
        · have Hi := Lib.hid hi
          have E := Lib.hid (show prodTo B (k + 1) = prodTo B k by simp [prodTo, hi])
          clear hi
          go_wp2_with (go_at_call 57; refine (l01Is_is B.G (k + 1) hlt false Hi.out _ _ (BW.out.at'.below (HQ.out.below (w.heap.size + 1)) (by omega)).g HG.out.g).mono ?_; rintro e w' ⟨rfl, rfl⟩)
          go_roundw
          case rel => exact ⟨k + 1, by omega, by go_num, ⟨b, rfl, by rw [E.out]; exact hb⟩, HQ⟩
          case measure => simp [intOf]; omega
        · have Hi := Lib.hid hi
          have E := Lib.hid (show prodTo B (k + 1) = fop .f32 .add (prodTo B k) (amtO B (k + 1)) by simp [prodTo, hi])
          clear hi
          go_upto_region 8 with (go_at_call 57; refine (l01Is_is B.G (k + 1) hlt true Hi.out _ _ (BW.out.at'.below (HQ.out.below (w.heap.size + 1)) (by omega)).g HG.out.g).mono ?_; rintro e w' ⟨rfl, rfl⟩)
          have bQ := BW.out.below (HQ.out.below (w.heap.size + 1)) (by omega)
          have c1 := Grd_fld bQ.s (k + 1) hlt
          have c2 := bQ.r
          clear bQ
          refine wp_region_calm (ops' := regOf Tryd.f34 8) [0, 1, 2, 3, 4, 5, 6, 7, 8, 9] [] .fin (Quiet w') [(0, Numv .f32 (prodTo B k)), (1, One (.int .i64 ((k + 1 : Nat) : Int))), (2, One (.pointer (some ⟨w.heap.size, 195, none⟩))), (3, One (.pointer (some ⟨w.heap.size, 195 + (k + 1 : Nat), none⟩))), (4, One (.float .f32 (B.s (k + 1)))), (5, One (.pointer (some ⟨w.heap.size, 323, none⟩))), (6, One (.float .f32 B.r)), (7, Numv .f32 (fop .f32 .mul (num .f32 (B.s (k + 1))) (num .f32 (B.r)))), (8, Numv .f32 (fop .f32 .add (prodTo B k) (fop .f32 .mul (num .f32 (B.s (k + 1))) (num .f32 (B.r))))), (9, Numv .f32 (fop .f32 .add (prodTo B k) (fop .f32 .mul (num .f32 (B.s (k + 1))) (num .f32 (B.r)))))] (by kernel_rfl) (by kernel_rfl) (by kernel_rfl) (by kernel_rfl) (by kernel_rfl) (by kernel_rfl) (by kernel_rfl) (by kernel_rfl) rfl ((Quiet.refl _).drewN 1) ?_
          refine calm_pureV (some 21) (.float .f32 b) ⟨_, rfl, hb.out⟩ (by kernel_rfl) (by kernel_rfl) (by kernel_rfl) (fun _ => by kernel_rfl) ?_
          rintro _ ⟨r21, rfl, hr21⟩
          refine calm_pure (some 22) (by kernel_rfl) (by kernel_rfl) (by kernel_rfl) (fun _ => by kernel_rfl) ?_
          refine calm_pure (some 23) (by kernel_rfl) (by kernel_rfl) (by kernel_rfl) (fun _ => by kernel_rfl) ?_
          refine calm_pure (some 24) (by kernel_rfl) (by kernel_rfl) (by kernel_rfl) (index_fld (x := .tmp 23) (y := .tmp 22) (o := 195) (by kernel_rfl) (by kernel_rfl) (by kernel_rfl) hlt) ?_
          refine calm_read (some 25) (by kernel_rfl) (by kernel_rfl) (by kernel_rfl) (fun w' hw' => load_cell (ty := 23) (x := .tmp 24) (b := w.heap.size) (o := 195 + (k + 1 : Nat)) (by kernel_rfl) (by kernel_rfl) Tryd.underlying23 rfl (kq c1 w' hw')) ?_
          refine calm_pure (some 26) (by kernel_rfl) (by kernel_rfl) (by kernel_rfl) (fun _ => by kernel_rfl) ?_
          refine calm_read (some 27) (by kernel_rfl) (by kernel_rfl) (by kernel_rfl) (fun w' hw' => load_cell (ty := 23) (x := .tmp 26) (b := w.heap.size) (o := 323) (by kernel_rfl) (by kernel_rfl) Tryd.underlying23 rfl (kq c2 w' hw')) ?_
          refine calm_float (some 28) .f32 .mul 23 23 (.tmp 25) (.tmp 27) ((B.s (k + 1))) (B.r) (by kernel_rfl) (by kernel_rfl) (by kernel_rfl) (by kernel_rfl) rfl (by kernel_rfl) (by kernel_rfl) (fun _ n h => h.drewN n) (rfl) ?_
          intro r28 hr28
          refine calm_float (some 29) .f32 .add 23 23 (.tmp 21) (.tmp 28) (r21) (r28) (by kernel_rfl) (by kernel_rfl) (by kernel_rfl) (by kernel_rfl) rfl (by kernel_rfl) (by kernel_rfl) (fun _ n h => h.drewN n) (fop_eq hr21 hr28) ?_
          intro r29 hr29
          refine calm_pureV (some 4) (.float .f32 r29) ⟨_, rfl, hr29⟩ (by kernel_rfl) (by kernel_rfl) (by kernel_rfl) (fun _ => by kernel_rfl) ?_
          rintro _ ⟨r4, rfl, hr4⟩
          refine calm_end fun w' hw' => plan_end (Clean.normal ?_)
          have HQ2 := Lib.hid (HQ.out.trans hw')
          have HR := Lib.hid (show num .f32 r4 = prodTo B (k + 1) by rw [E.out]; exact hr4)
          clear hw' c1 c2 hr29 hr28 hr4
          simp only [Act.put, List.setIfInBounds_toArray, List.set_cons_zero, List.set_cons_succ]
          go_wp2
          go_roundw
          case rel => exact ⟨k + 1, by omega, by go_num, ⟨r4, rfl, HR⟩, HQ2⟩
          case measure => simp [intOf]; omega
      · obtain rfl : k = 63 := by omega
        cases hf : finB b
        · have V1 := Lib.hid (R.out.trans (finV_no hb.out hf).symm)
          go_wp2_with (go_at_call 64; refine (l01Finite_is b _ hf _).mono ?_; rintro e w3 ⟨rfl, hq3⟩)
          go_ret2
          exact ⟨congrArg Ending.returned V1.out.symm, HB1.out.trans ((HQ.out.trans hq3).below _)⟩
        · have V1 := Lib.hid (R.out.trans (finV_yes hb.out hf).symm)
          go_wp2_with (go_at_call 64; refine (l01Finite_is b _ hf _).mono ?_; rintro e w3 ⟨rfl, hq3⟩)
          go_ret2
          exact ⟨congrArg Ending.returned V1.out.symm, HB1.out.trans ((HQ.out.trans hq3).below _)⟩

set_option maxRecDepth 100000 in
set_option maxHeartbeats 4000000 in
theorem implSaltIn_any (B : Brn) (w : World) (hG : BrnOk B) (hT : TabAt w) :
    Calls Tryd.prog 35 #[.agg (BrnA B)] w fun e w' => e = .returned (saltInV B) ∧ Below w.heap.size w w' := by
  have m64 := cellsN_lt B.G
  cases hv : brnB B
  · have Hv := Lib.hid hv
    have R := Lib.hid (show saltInV B = FI 0 1 by unfold saltInV; rw [hv]; rfl)
    clear hv
    go_enter Tryd.func35, Tryd.ntmps35
    go_upto_region 1 with (fail)
    obtain ⟨W, hW, hs, b1, hB⟩ := bbox1 B 42 w
    rw [hW]
    clear hW
    have r1 := b1.range
    have B1 := Lib.hid b1
    have HB := Lib.hid hB
    have HG := Lib.hid hG
    have TW := Lib.hid (hT.below hB (tab_lt hT))
    have hl : w.heap.size < W.heap.size := by omega
    have hgl := tab_lt hT
    clear b1 hB hG hT hs
    go_wp2_with (first | (refine ld_stage 42 rfl ?_; refine wpList_load_mid rfl 42 _ rfl (w.heap.size) 0 rfl (BrnL B) _ r1 Tryd.underlying42 rfl (by rw [BrnL_length]; exact infoBrine) ?_) | (go_at_call 24; have hc := (implValidB_any B W HG.out TW.out); rw [Hv.out] at hc; refine hc.mono ?_; clear hc; rintro e V ⟨rfl, hb1⟩; have Hb1 := Lib.hid hb1; clear hb1))
    go_ret2
    exact ⟨congrArg Ending.returned R.out.symm, HB.out.trans (Hb1.out.mono (by omega))⟩
  have wd := valid_ext (brn_valid hv)
  have hz := (zero_of_info zeroField).1
  have HVB := Lib.hid (brn_valid hv)
  have Hv := Lib.hid hv
  obtain ⟨rb, rn, hrr⟩ := finV_is (prodTo B 63)
  have R := Lib.hid (show saltInV B = FI rb rn by unfold saltInV; rw [hv]; exact hrr)
  have R2 := Lib.hid hrr
  clear hv hrr
  refine (callsIn_wide (n := 6)).1 (callsIn_of_wp_marks Tryd.func35 rfl trivial ?_ rfl)
  simp only [Tryd.ntmps35, List.size_toArray, List.length_cons, List.length_nil, Nat.reduceAdd, Nat.reduceSub, Array.replicate_succ, Array.replicate_zero, List.push_toArray, List.append_toArray, List.nil_append, List.cons_append]
  refine wpIn_wide.2 ?_
  go_upto_region 1 with (fail)
  obtain ⟨W, hW, hs, b1, hB⟩ := bbox1 B 42 w
  rw [hW]
  clear hW
  have r1 := b1.range
  have B1 := Lib.hid b1
  have HB := Lib.hid hB
  have HG := Lib.hid hG
  have TW := Lib.hid (hT.below hB (tab_lt hT))
  have hl : w.heap.size < W.heap.size := by omega
  have hgl := tab_lt hT
  clear b1 hB hG hT hs
  go_upto_region 3 with (first | (refine ld_stage 42 rfl ?_; refine wpList_load_mid rfl 42 _ rfl (w.heap.size) 0 rfl (BrnL B) _ r1 Tryd.underlying42 rfl (by rw [BrnL_length]; exact infoBrine) ?_) | (go_at_call 24; have hc := (implValidB_any B W HG.out TW.out); rw [Hv.out] at hc; refine hc.mono ?_; clear hc; rintro e V ⟨rfl, hb1⟩; have Hb1 := Lib.hid hb1; clear hb1))
  have zV := Hb1.out.size
  have bV := B1.out.below Hb1.out (by omega)
  have TV := TW.out.below Hb1.out (tab_lt TW.out)
  have HV := HB.out.trans (Hb1.out.mono (by omega))
  clear B1 TW HB r1
  have BV := Lib.hid bV
  have HVl := Lib.hid HV
  have TVl := Lib.hid TV
  clear bV HV TV
  go_upto_region 4 with (refine st_stage 29 rfl ?_; refine wpList_store_mid rfl 29 _ _ rfl _ 0 (Fld zf) rfl rfl (by rw [Fld_size]; exact new_thereF _ V) (by rw [Fld_size]; exact infoField) (Fld_one _) ?_)
  obtain ⟨X, hX, zX, rX, hbX⟩ := stored_fld zf 29 V
  have uX : X.there V.heap.size 0 64 := by rw [← hX]; exact World.there_setCells (new_thereF _ V) _ _ _
  rw [hX]
  obtain ⟨N, hN⟩ : ∃ N, V.heap.size = N := ⟨_, rfl⟩
  rw [hN] at rX uX ⊢
  have bX := BV.out.below hbX (by omega)
  have TX := TVl.out.below hbX (tab_lt TVl.out)
  have HX := HVl.out.trans (hbX.mono (by omega))
  clear hX BV TVl HVl hbX hz
  have BX := Lib.hid bX
  go_upto_region 5 with (first | (go_at_call 50; refine (cells_any B.G B.G.wide.toNat B.G.high.toNat (by omega) (by omega) (by omega) (by omega) _ _ BX.out.at'.g).mono ?_; rintro e w' ⟨rfl, rfl⟩) | (go_at_call 51; refine (bitsIn_any (cellsN B.G) _).mono ?_; rintro e w' ⟨rfl, rfl⟩))
  obtain ⟨Y, hY, zY, rY, uY, hbY⟩ := one_boxT #[.int .u64 (cellsN B.G)] 25 X
  rw [hY]
  have hm0 := rY 0 _ rfl
  rw [Nat.zero_add, zX, hN] at hm0
  have BY := Lib.hid (bX.below hbY (by omega))
  have rN := range_kept rX (by omega) _ hbY
  have uN := there_below uX hbY (by omega)
  have TY := TX.below hbY (tab_lt TX)
  have TYh := Lib.hid TY
  have HY := Lib.hid (HX.trans (hbY.mono (by omega)))
  clear hY rY uY bX TX HX hbY BX wd rX uX
  refine (wpIn_wide (n := 6)).1 (wp_bits 12 13 5 (N + 1) N (cellsN B.G) m64 rfl hm0 TY (by omega) (by omega)
    (fun pre W2 => ∃ f : Nat → Nat, W2.rangeAt N 0 (Fld f).toList ∧ W2.there N 0 64 ∧ ∀ i ∈ pre, num .f32 (f i) = amtO B i) (fun _ _ _ => False)
    (fun s A B h ⟨f, h1, h2, h3⟩ => ⟨f, h.range h1, h.there h2, h3⟩) (fun _ _ _ _ _ h => h) ⟨zf, rN, uN, fun i hi => by cases hi⟩ ?assign ?body ?done ?stop)
  case assign =>
    intro l x W K hK
    simp only [List.setIfInBounds_toArray, List.set_cons_zero, List.set_cons_succ] at hK ⊢
    gi_wp2
    exact hK
  case body =>
    rintro l pre y W2 ⟨f, h1, h2, h3⟩ hB2 hbit hi
    simp only [List.setIfInBounds_toArray, List.set_cons_zero, List.set_cons_succ]
    have hN' : nos (pre ++ [y]) = nos pre ++ [y.1] := nos_snoc _ _
    generalize y.1 = i at hi hN' hbit ⊢
    have HN' := Lib.hid hN'
    have c1 := Grd_fld (BY.out.below hB2 (by omega)).s i hi
    have c2 := (BY.out.below hB2 (by omega)).r
    have HB2 := Lib.hid hB2
    have H3 := Lib.hid h3
    have hi2 : (i : Int) < 64 := by omega
    clear hN' hB2 h3 hbit
    refine wpIn_block ?_
    gi_upto_region 6 with (fail)
    refine wpIn_region_calm (ops' := regOf Tryd.f35 6) [0, 1, 2, 3, 4, 5, 6, 7, 8] [9] (.run 9 .fin) (Quiet W2) [(0, One (.int .i64 (i : Int))), (1, One (.int .i64 (i : Int))), (2, One (.pointer (some ⟨w.heap.size, 195, none⟩))), (3, One (.pointer (some ⟨w.heap.size, 195 + i, none⟩))), (4, One (.float .f32 (B.s i))), (5, One (.pointer (some ⟨w.heap.size, 323, none⟩))), (6, One (.float .f32 B.r)), (7, Numv .f32 (fop .f32 .mul (num .f32 (B.s i)) (num .f32 (B.r)))), (8, One (.pointer (some ⟨N, 0 + i, none⟩)))] (by kernel_rfl) (by kernel_rfl) (by kernel_rfl) (by kernel_rfl) (by kernel_rfl) (by kernel_rfl) (by kernel_rfl) (by kernel_rfl) (by kernel_rfl) rfl ((Quiet.refl _).drewN 1) ?_
    refine calm_pure (some 14) (by kernel_rfl) (by kernel_rfl) (by kernel_rfl) (fun _ => by kernel_rfl) ?_
    refine calm_pure (some 15) (by kernel_rfl) (by kernel_rfl) (by kernel_rfl) (fun _ => by kernel_rfl) ?_
    refine calm_pure (some 16) (by kernel_rfl) (by kernel_rfl) (by kernel_rfl) (fun _ => by kernel_rfl) ?_
    refine calm_pure (some 17) (by kernel_rfl) (by kernel_rfl) (by kernel_rfl) (index_fld (x := .tmp 16) (y := .tmp 15) (o := 195) (by kernel_rfl) (by kernel_rfl) (by kernel_rfl) hi) ?_
    refine calm_read (some 18) (by kernel_rfl) (by kernel_rfl) (by kernel_rfl) (fun w' hw' => load_cell (ty := 23) (x := .tmp 17) (b := w.heap.size) (o := 195 + i) (by kernel_rfl) (by kernel_rfl) Tryd.underlying23 rfl (kq c1 w' hw')) ?_
    refine calm_pure (some 19) (by kernel_rfl) (by kernel_rfl) (by kernel_rfl) (fun _ => by kernel_rfl) ?_
    refine calm_read (some 20) (by kernel_rfl) (by kernel_rfl) (by kernel_rfl) (fun w' hw' => load_cell (ty := 23) (x := .tmp 19) (b := w.heap.size) (o := 323) (by kernel_rfl) (by kernel_rfl) Tryd.underlying23 rfl (kq c2 w' hw')) ?_
    refine calm_float (some 21) .f32 .mul 23 23 (.tmp 18) (.tmp 20) ((B.s i)) (B.r) (by kernel_rfl) (by kernel_rfl) (by kernel_rfl) (by kernel_rfl) rfl (by kernel_rfl) (by kernel_rfl) (fun _ n h => h.drewN n) (rfl) ?_
    intro r21 hr21
    refine calm_pure (some 22) (by kernel_rfl) (by kernel_rfl) (by kernel_rfl) (index_fld (x := .tmp 4) (y := .tmp 14) (o := 0) (by kernel_rfl) (by kernel_rfl) (by kernel_rfl) hi) ?_
    have ti := there_mid (k := i) (m := 1) h2 (by omega)
    have tq : ∀ w', Quiet W2 w' → (∃ u, w'.cell? ⟨N, 0 + i, none⟩ = some u) ∧ w'.frozen? ⟨N, 0 + i, none⟩ = false := fun w' hq => by
      have := ti 0 (by omega)
      rw [Nat.add_zero] at this
      rw [Nat.zero_add]
      refine ⟨?_, hq.frozen this.2⟩
      rw [hq.cell]
      exact Option.isSome_iff_exists.1 this.1
    refine calm_end fun w' hw' => ?_
    obtain ⟨⟨u, hu⟩, hfz⟩ := tq w' hw'
    refine plan_do none undef (w'.setCell ⟨N, 0 + i, none⟩ (.float .f32 r21)) (by kernel_rfl) (by kernel_rfl) (by kernel_rfl) (.inr ⟨store_f32 (x := .tmp 22) (y := .tmp 21) (by kernel_rfl) (by kernel_rfl) (by kernel_rfl) infoF32 hu hfz, rfl⟩) trivial (plan_end (Clean.normal ?_))
    refine ⟨KeepsOthers.trans (B := w') (KeepsOthers.of_below' (hw'.below _)) (KeepsOthers.setCell _ _ _), (hw'.below _).setCell (p := ⟨N, 0 + i, none⟩) (Nat.le_refl _) _, ⟨upd f i r21, Fld_upd (hw'.range h1) hi (by rw [hu]; rfl), there_setCell (there_below h2 (hw'.below (N + 1)) (by omega)), ?_⟩, HB2.out.trans ((hw'.below _).setCell (p := ⟨N, 0 + i, none⟩) (Nat.le_refl _) _)⟩
    intro j hj
    rw [HN'.out, List.mem_append, List.mem_singleton] at hj
    unfold upd
    by_cases e : j = i
    · rw [if_pos e, e]; exact hr21
    · rw [if_neg e]
      rcases hj with h | h
      · exact H3.out j h
      · exact absurd h e
  case done =>
    rintro D W2 hD ⟨f, h1, h2, h3⟩ hB2 hK
    have hsum := prodTo_sum B f (is_zero HVB.out) (fun i hi hb => h3 i (mem_bitsL.2 ⟨hi, by rw [cellsN_testBit, hb]; simp [hi]⟩)) 63 (by omega)
    have E := Lib.hid (show finV (sumTo B.G f 63) = FI rb rn by rw [hsum]; exact R2.out)
    have T2 := Lib.hid (TYh.out.below hB2 (by omega))
    have rG := (BY.out.below hB2 (by omega)).grd.range
    have HB3 := Lib.hid (HY.out.trans (hB2.mono (by omega)))
    have hwD : w.heap.size ≤ D := by omega
    have hDl : D < W2.heap.size := (Array.getElem?_eq_some_iff.1 hK).1
    clear h2 h3 hm0 hD hB2 rN uN hsum TYh TY
    unfold FI at E
    go_wp2_with (first | (refine ld_stage 31 rfl ?_; refine wpList_load_mid rfl 31 _ rfl w.heap.size 0 rfl (GrdL B.G) _ rG Tryd.underlying31 rfl (by rw [GrdL_length]; exact infoGround) ?_) | (refine ld_stage 29 rfl ?_; refine wpList_load_mid rfl 29 _ rfl N 0 rfl (Fld f).toList _ h1 Tryd.underlying29 rfl (by rw [Fld_length]; exact infoField) ?_) | (go_at_call 74; have hc := implSum_valid B.G f W2 HG.out.g T2.out HVB.out; rw [E.out] at hc; refine hc.mono ?_; clear hc; rintro e V4 ⟨rfl, h4⟩; have H4 := Lib.hid h4; clear h4))
    have hK4 := (H4.out.block D hDl).trans hK
    exact ret_marks hK4 (fun W' _ => by simp [results, Tryd.results35, go_sem] <;> rfl) (fun W' _ hb => ⟨congrArg Ending.returned R.out.symm, (HB3.out.trans (H4.out.mono (by omega))).trans (hb _ hwD)⟩)
  case stop =>
    rintro D c pre W _ _ h _ _
    exact h.elim
end Go.Proofs.YtjmekgogaiokpaaDoor
