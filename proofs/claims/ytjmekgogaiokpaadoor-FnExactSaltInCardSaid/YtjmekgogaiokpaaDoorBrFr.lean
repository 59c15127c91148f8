/- FrontOf: both sides. Condition (the program's): the table of math/bits is laid. -/
import Derived.Test.YtjmekgogaiokpaaDoorBrG
namespace Go.Proofs.YtjmekgogaiokpaaDoor
open Go.RowKit Go.Shelf
attribute [local go_sem] Oper.semAt_some run_store_float
set_option linter.unusedSimpArgs false
set_option linter.unusedVariables false

theorem one_boxT (A : Array Value) (t : TypeId) (w : World) : ∃ W, w.alloc (.cells A t) = W ∧ W.heap.size = w.heap.size + 1 ∧ W.rangeAt w.heap.size 0 A.toList ∧ W.there w.heap.size 0 A.size ∧ Below w.heap.size w W :=
  ⟨_, rfl, by simp, rangeAt_row (heap_alloc_last w _), there_row (heap_alloc_last w _) rfl, (Below.refl _ _).alloc (Nat.le_refl _) _⟩
theorem fb_two (B : Brn) (A : Array Value) (t u : TypeId) (w : World) : ∃ W, (w.alloc (.cells (BrnA B) t)).alloc (.cells A u) = W ∧ W.heap.size = w.heap.size + 1 + 1 ∧ BrnBox W w.heap.size B ∧ W.rangeAt (w.heap.size + 1) 0 A.toList ∧ W.there (w.heap.size + 1) 0 A.size ∧ Below w.heap.size w W := by
  obtain ⟨V, hV, z1, g1, b1⟩ := bbox1 B t w
  obtain ⟨W, hW, z2, r, th, b2⟩ := one_boxT A u V
  rw [hV, hW]
  rw [z1] at r th
  exact ⟨W, rfl, by omega, g1.below b2 (by omega), r, th, b1.trans (b2.mono (by omega))⟩
/-- Is a number at least another one? -/
def geB (y x : Nat) : Bool := FloatKind.f32.format.order y x == some Ordering.gt || FloatKind.f32.format.order y x == some Ordering.eq
def maskOf (l : List Nat) : Nat := l.foldl (fun a i => a ||| 2 ^ i) 0
theorem maskOf_snoc (l : List Nat) (i : Nat) : maskOf (l ++ [i]) = maskOf l ||| 2 ^ i := by simp [maskOf]
theorem maskOf_lt (l : List Nat) (h : ∀ i ∈ l, i < 64) : maskOf l < 18446744073709551616 := by
  suffices hs : ∀ (l : List Nat), (∀ i ∈ l, i < 64) → ∀ a, a < 2 ^ 64 → l.foldl (fun a i => a ||| 2 ^ i) a < 2 ^ 64 from hs l h 0 (by omega)
  intro l
  induction l with
  | nil => intro _ a ha; exact ha
  | cons i l ih =>
    intro h a ha
    exact ih (fun j hj => h j (by simp [hj])) _ (Nat.or_lt_two_pow ha (Nat.pow_lt_pow_right (by omega) (h i (by simp))))
/-- The cells of a list whose salt is at least a number. -/
def frL (B : Brn) (x : Nat) (l : List Nat) : List Nat := l.filter fun i => geB (B.s i) x
theorem frL_yes {B : Brn} {x : Nat} {l : List Nat} {i : Nat} (h : geB (B.s i) x = true) : frL B x (l ++ [i]) = frL B x l ++ [i] := by simp [frL, h]
theorem frL_no {B : Brn} {x : Nat} {l : List Nat} {i : Nat} (h : geB (B.s i) x = false) : frL B x (l ++ [i]) = frL B x l := by simp [frL, h]
theorem frL_lt {B : Brn} {x : Nat} {l : List Nat} (h : ∀ i ∈ l, i < 64) : ∀ i ∈ frL B x l, i < 64 := fun i hi => h i (List.mem_filter.1 hi).1
/-- The cells among the first numbers. -/
def isL (G : Gd) (k : Nat) : List Nat := (List.range k).filter (isB G)
theorem isL_yes {G : Gd} {k : Nat} (h : isB G k = true) : isL G (k + 1) = isL G k ++ [k] := by
  unfold isL
  rw [List.range_succ, List.filter_append, List.filter_cons, if_pos h, List.filter_nil]
theorem isL_no {G : Gd} {k : Nat} (h : isB G k = false) : isL G (k + 1) = isL G k := by
  unfold isL
  rw [List.range_succ, List.filter_append, List.filter_cons, if_neg (by rw [h]; decide), List.filter_nil, List.append_nil]
theorem isL_lt {G : Gd} {k : Nat} (hk : k ≤ 64) : ∀ i ∈ isL G k, i < 64 := fun i hi => by
  have := (List.mem_filter.1 hi).1
  simp at this
  omega
theorem isL_full (G : Gd) : isL G 64 = bitsL (cellsN G) := (cellL_bits G).symm
def frontN (B : Brn) (x : Nat) : Nat := maskOf (frL B x (isL B.G 64))
def frontV (B : Brn) (x : Nat) : Value := if brnB B = true then .tuple #[.int .u64 (frontN B x), .int .i64 0] else .tuple #[.int .u64 0, .int .i64 1]
theorem frontV_is (B : Brn) (x : Nat) : ∃ (a : Int) (n : Int), frontV B x = .tuple #[.int .u64 a, .int .i64 n] := by
  unfold frontV
  split <;> exact ⟨_, _, rfl⟩

set_option maxRecDepth 100000 in
set_option maxHeartbeats 4000000 in
theorem specFront_any (B : Brn) (x : Nat) (w : World) (hG : BrnOk B) :
    Calls Tryd.prog 36 #[.agg (BrnA B), .float .f32 x] w fun e w' => e = .returned (frontV B x) ∧ Below w.heap.size w w' := by
  go_enter Tryd.func36, Tryd.ntmps36
  go_upto_region 1 with (fail)
  obtain ⟨W, hW, hs, b1, hB⟩ := bbox1 B 42 w
  rw [hW]
  clear hW
  have B1 := Lib.hid b1
  have HB := Lib.hid hB
  have HG := Lib.hid hG
  clear b1 hB hG
  cases hv : brnB B
  · have Hv := Lib.hid hv
    have R := Lib.hid (show frontV B x = .tuple #[.int .u64 0, .int .i64 1] by unfold frontV; rw [hv]; rfl)
    clear hv
    go_wp2_with (go_at_call 59; have hc := (l05Ok_any B (w.heap.size) W B1.out.at' HG.out); rw [Hv.out] at hc; refine hc.mono ?_; clear hc; rintro e w1 ⟨rfl, hq⟩; have HQ := Lib.hid hq; clear hq)
    go_ret2
    exact ⟨congrArg Ending.returned R.out.symm, HB.out.trans (HQ.out.below _)⟩
  · have Hv := Lib.hid hv
    have R := Lib.hid (show frontV B x = .tuple #[.int .u64 (frontN B x), .int .i64 0] by unfold frontV; rw [hv]; rfl)
    clear hv
    go_upto_region 3 with (go_at_call 59; have hc := (l05Ok_any B (w.heap.size) W B1.out.at' HG.out); rw [Hv.out] at hc; refine hc.mono ?_; clear hc; rintro e w1 ⟨rfl, hq⟩; have HQ := Lib.hid hq; clear hq)
    have BW := Lib.hid (B1.out.below (HQ.out.below (w.heap.size + 1)) (by omega))
    have cs := Lib.hid (fun k hk => Grd_fld BW.out.s k hk)
    clear B1
    go_wp2
    go_loop [6, 7] (fun m i => ∃ k : Nat, k ≤ 64 ∧ i = .int .i64 k ∧ m = .int .u64 (maskOf (frL B x (isL B.G k)) : Nat)) (fun _ i => 64 - (intOf i).toNat)
    case atStart => exact ⟨0, by omega, rfl, rfl⟩
    case round =>
      obtain ⟨k, hk, rfl, rfl⟩ := hrel
      by_cases hlt : k < 64
      · have hk2 : (k : Int) < 64 := by omega
        cases hi : isB B.G k
        · have Hi := Lib.hid hi
          have E := Lib.hid (isL_no hi)
          clear hi
          go_wp2_with (go_at_call 57; refine (l01Is_is B.G k hlt false Hi.out _ _ BW.out.at'.g HG.out.g).mono ?_; rintro e w' ⟨rfl, rfl⟩)
          go_round
          case rel => exact ⟨k + 1, by omega, by go_num, by rw [E.out]⟩
          case measure => simp [intOf]; omega
        · have Hi := Lib.hid hi
          have c1 := cs.out k hlt
          cases hg : geB (B.s k) x
          · have E := Lib.hid (show frL B x (isL B.G (k + 1)) = frL B x (isL B.G k) by rw [isL_yes hi, frL_no hg])
            unfold geB at hg
            clear hi
            go_wp2_with (go_at_call 57; refine (l01Is_is B.G k hlt true Hi.out _ _ BW.out.at'.g HG.out.g).mono ?_; rintro e w' ⟨rfl, rfl⟩)
            go_round
            case rel => exact ⟨k + 1, by omega, by go_num, by rw [E.out]⟩
            case measure => simp [intOf]; omega
          · have E := Lib.hid (show maskOf (frL B x (isL B.G (k + 1))) = maskOf (frL B x (isL B.G k)) ||| 2 ^ k by rw [isL_yes hi, frL_yes hg, maskOf_snoc])
            have hm := maskOf_lt _ (frL_lt (B := B) (x := x) (isL_lt (G := B.G) hk))
            generalize maskOf (frL B x (isL B.G k)) = m at E hm ⊢
            have O := Lib.hid (or_bit m k hm hlt)
            unfold geB at hg
            clear hi
            go_wp2_with (go_at_call 57; refine (l01Is_is B.G k hlt true Hi.out _ _ BW.out.at'.g HG.out.g).mono ?_; rintro e w' ⟨rfl, rfl⟩)
            go_round
            case rel => exact ⟨k + 1, by omega, by go_num, by rw [E.out]; first | exact congrArg (Value.int .u64) O.out | (have := O.out; simp only [go_sem] at this ⊢; exact congrArg _ this)⟩
            case measure => simp [intOf]; omega
      · obtain rfl : k = 64 := by omega
        go_wp2
        go_ret2
        exact ⟨congrArg Ending.returned R.out.symm, HB.out.trans (HQ.out.below _)⟩

set_option maxRecDepth 100000 in
set_option maxHeartbeats 4000000 in
theorem implFront_any (B : Brn) (x : Nat) (w : World) (hG : BrnOk B) (hT : TabAt w) :
    Calls Tryd.prog 37 #[.agg (BrnA B), .float .f32 x] w fun e w' => e = .returned (frontV B x) ∧ Below w.heap.size w w' := by
  have m64 := cellsN_lt B.G
  cases hv : brnB B
  · have Hv := Lib.hid hv
    have R := Lib.hid (show frontV B x = .tuple #[.int .u64 0, .int .i64 1] by unfold frontV; rw [hv]; rfl)
    clear hv
    go_enter Tryd.func37, Tryd.ntmps37
    go_upto_region 1 with (fail)
    obtain ⟨W, hW, hs, b1, e1, u1, hB⟩ := fb_two B #[.float .f32 x] 42 23 w
    rw [hW]
    clear hW
    have cx := e1 0 _ rfl
    rw [Nat.zero_add] at cx
    have r1 := b1.range
    have B1 := Lib.hid b1
    have HB := Lib.hid hB
    have HG := Lib.hid hG
    have TW := Lib.hid (hT.below hB (tab_lt hT))
    have hl : w.heap.size + 1 < W.heap.size := by omega
    have hgl := tab_lt hT
    clear b1 hB hG hT hs e1 u1
    go_wp2_with (first | (refine ld_stage 42 rfl ?_; refine wpList_load_mid rfl 42 _ rfl (w.heap.size) 0 rfl (BrnL B) _ r1 Tryd.underlying42 rfl (by rw [BrnL_length]; exact infoBrine) ?_) | (go_at_call 24; have hc := (implValidB_any B W HG.out TW.out); rw [Hv.out] at hc; refine hc.mono ?_; clear hc; rintro e V ⟨rfl, hb1⟩; have Hb1 := Lib.hid hb1; clear hb1))
    go_ret2
    exact ⟨congrArg Ending.returned R.out.symm, HB.out.trans (Hb1.out.mono (by omega))⟩
  have wd := valid_ext (brn_valid hv)
  have Hv := Lib.hid hv
  have R := Lib.hid (show frontV B x = .tuple #[.int .u64 (frontN B x), .int .i64 0] by unfold frontV; rw [hv]; rfl)
  clear hv
  refine (callsIn_wide (n := 6)).1 (callsIn_of_wp_marks Tryd.func37 rfl trivial ?_ rfl)
  simp only [Tryd.ntmps37, List.size_toArray, List.length_cons, List.length_nil, Nat.reduceAdd, Nat.reduceSub, Array.replicate_succ, Array.replicate_zero, List.push_toArray, List.append_toArray, List.nil_append, List.cons_append]
  refine wpIn_wide.2 ?_
  go_upto_region 1 with (fail)
  obtain ⟨W, hW, hs, b1, e1, u1, hB⟩ := fb_two B #[.float .f32 x] 42 23 w
  rw [hW]
  clear hW
  have cx := e1 0 _ rfl
  rw [Nat.zero_add] at cx
  have r1 := b1.range
  have B1 := Lib.hid b1
  have HB := Lib.hid hB
  have HG := Lib.hid hG
  have TW := Lib.hid (hT.below hB (tab_lt hT))
  have hl : w.heap.size + 1 < W.heap.size := by omega
  have hgl := tab_lt hT
  clear b1 hB hG hT hs e1 u1
  go_upto_region 3 with (first | (refine ld_stage 42 rfl ?_; refine wpList_load_mid rfl 42 _ rfl (w.heap.size) 0 rfl (BrnL B) _ r1 Tryd.underlying42 rfl (by rw [BrnL_length]; exact infoBrine) ?_) | (go_at_call 24; have hc := (implValidB_any B W HG.out TW.out); rw [Hv.out] at hc; refine hc.mono ?_; clear hc; rintro e V ⟨rfl, hb1⟩; have Hb1 := Lib.hid hb1; clear hb1))
  have zV := Hb1.out.size
  have bV := B1.out.below Hb1.out (by omega)
  have cV := kc cx (by omega) _ Hb1.out
  have TV := TW.out.below Hb1.out (tab_lt TW.out)
  have HV := HB.out.trans (Hb1.out.mono (by omega))
  clear B1 TW HB r1 cx
  go_upto_region 4 with (fail)
  obtain ⟨X, hX, zX, rX, uX, hbX⟩ := one_boxT #[.int .u64 0] 25 V
  rw [hX]
  obtain ⟨N, hN⟩ : ∃ N, V.heap.size = N := ⟨_, rfl⟩
  rw [hN] at rX uX ⊢
  have cN := rX 0 _ rfl
  have fN := (uX 0 (by simp)).2
  rw [Nat.zero_add] at cN fN
  have bX := bV.below hbX (by omega)
  have cX := kc cV (by omega) _ hbX
  have TX := TV.below hbX (tab_lt TV)
  have HX := HV.trans (hbX.mono (by omega))
  clear hX rX uX bV cV TV HV hbX
  have BX := Lib.hid bX
  go_upto_region 5 with (first | (go_at_call 50; refine (cells_any B.G B.G.wide.toNat B.G.high.toNat (by omega) (by omega) (by omega) (by omega) _ _ BX.out.at'.g).mono ?_; rintro e w' ⟨rfl, rfl⟩) | (go_at_call 51; refine (bitsIn_any (cellsN B.G) _).mono ?_; rintro e w' ⟨rfl, rfl⟩))
  obtain ⟨Y, hY, zY, rY, uY, hbY⟩ := one_boxT #[.int .u64 (cellsN B.G)] 25 X
  rw [hY]
  have hm0 := rY 0 _ rfl
  rw [Nat.zero_add, zX, hN] at hm0
  have BY := Lib.hid (bX.below hbY (by omega))
  have cY := kc cX (by omega) _ hbY
  have cN := kc cN (by omega) _ hbY
  have fN := (hbY.frozen (p := ⟨N, 0, none⟩) (by simp; omega)).trans fN
  have TY := TX.below hbY (tab_lt TX)
  have HY := Lib.hid (HX.trans (hbY.mono (by omega)))
  clear hY rY uY bX cX TX HX hbY BX wd
  refine (wpIn_wide (n := 6)).1 (wp_bits 13 14 7 (N + 1) N (cellsN B.G) m64 rfl hm0 TY (by omega) (by omega)
    (fun pre W2 => W2.cell? ⟨N, 0, none⟩ = some (.int .u64 (maskOf (frL B x pre) : Nat)) ∧ W2.frozen? ⟨N, 0, none⟩ = false ∧ ∀ i ∈ pre, i < 64) (fun _ _ _ => False)
    (fun s A B h ⟨h1, h2, h3⟩ => ⟨h.cell h1, (h.frozen h1).trans h2, h3⟩) (fun _ _ _ _ _ h => h) ⟨cN, fN, fun i hi => by cases hi⟩ ?assign ?body ?done ?stop)
  case assign =>
    intro l x W K hK
    simp only [List.setIfInBounds_toArray, List.set_cons_zero, List.set_cons_succ] at hK ⊢
    gi_wp2
    exact hK
  case body =>
    rintro l pre y W2 ⟨h1, h2, h3⟩ hB2 hbit hi
    simp only [List.setIfInBounds_toArray, List.set_cons_zero, List.set_cons_succ]
    have hN' : nos (pre ++ [y]) = nos pre ++ [y.1] := nos_snoc _ _
    generalize y.1 = i at hi hN' hbit ⊢
    have HN' := Lib.hid hN'
    have c1 := Grd_fld (BY.out.below hB2 (by omega)).s i hi
    have c2 := kc cY (by omega) _ hB2
    have HB2 := Lib.hid hB2
    have H3 := Lib.hid h3
    have hi2 : (i : Int) < 64 := by omega
    clear hN' hB2 h3 hbit
    refine wpIn_block ?_
    cases hg : geB (B.s i) x
    · have Hg := Lib.hid hg
      have E := Lib.hid (frL_no (l := nos pre) hg)
      clear hg
      gi_upto_region 6 with (fail)
      refine wpIn_region_calm (ops' := regOf Tryd.f37 6) [0, 1, 2, 3, 4, 5] [] .fin (Quiet W2) [(0, One (.int .i64 (i : Int))), (1, One (.pointer (some ⟨w.heap.size, 195, none⟩))), (2, One (.pointer (some ⟨w.heap.size, 195 + i, none⟩))), (3, One (.float .f32 (B.s i))), (4, One (.float .f32 x)), (5, One (.bool false))] (by kernel_rfl) (by kernel_rfl) (by kernel_rfl) (by kernel_rfl) (by kernel_rfl) (by kernel_rfl) (by kernel_rfl) (by kernel_rfl) (by kernel_rfl) rfl ((Quiet.refl _).drewN 1) ?_
      refine calm_pure (some 15) (by kernel_rfl) (by kernel_rfl) (by kernel_rfl) (fun _ => by kernel_rfl) ?_
      refine calm_pure (some 16) (by kernel_rfl) (by kernel_rfl) (by kernel_rfl) (fun _ => by kernel_rfl) ?_
      refine calm_pure (some 17) (by kernel_rfl) (by kernel_rfl) (by kernel_rfl) (index_fld (x := .tmp 16) (y := .tmp 15) (o := 195) (by kernel_rfl) (by kernel_rfl) (by kernel_rfl) hi) ?_
      refine calm_read (some 18) (by kernel_rfl) (by kernel_rfl) (by kernel_rfl) (fun w' hw' => load_cell (ty := 23) (x := .tmp 17) (b := w.heap.size) (o := 195 + i) (by kernel_rfl) (by kernel_rfl) Tryd.underlying23 rfl (kq c1 w' hw')) ?_
      refine calm_read (some 19) (by kernel_rfl) (by kernel_rfl) (by kernel_rfl) (fun w' hw' => load_cell (ty := 23) (x := .tmp 3) (b := (w.heap.size + 1)) (o := 0) (by kernel_rfl) (by kernel_rfl) Tryd.underlying23 rfl (kq c2 w' hw')) ?_
      refine calm_pure (some 20) (by kernel_rfl) (by kernel_rfl) (by kernel_rfl) (fun _ => by rw [← Hg.out]; kernel_rfl) ?_
      refine calm_end fun w' hw' => plan_end (Clean.normal ?_)
      have Qw := Lib.hid hw'
      have k1 := Lib.hid (kq h1 w' hw')
      have k2 := Lib.hid (hw'.frozen h2)
      clear hw' c1 c2 h1 h2
      simp only [Act.put, List.setIfInBounds_toArray, List.set_cons_zero, List.set_cons_succ]
      gi_wp2
      exact ⟨KeepsOthers.of_below' (Qw.out.below _), Qw.out.below _, ⟨by rw [HN'.out, E.out]; exact k1.out, k2.out, fun j hj => by rw [HN'.out, List.mem_append, List.mem_singleton] at hj; rcases hj with h | rfl; exact H3.out j h; exact hi⟩, HB2.out.trans (Qw.out.below _)⟩
    · have Hg := Lib.hid hg
      have E := Lib.hid (show maskOf (frL B x (nos pre ++ [i])) = maskOf (frL B x (nos pre)) ||| 2 ^ i by rw [frL_yes hg, maskOf_snoc])
      have hm := maskOf_lt _ (frL_lt (B := B) (x := x) H3.out)
      generalize maskOf (frL B x (nos pre)) = m at E hm h1 ⊢
      have O := Lib.hid (or_bit m i hm hi)
      clear hg hm
      gi_upto_region 6 with (fail)
      refine wpIn_region_calm (ops' := regOf Tryd.f37 6) [0, 1, 2, 3, 4, 5] [] .fin (Quiet W2) [(0, One (.int .i64 (i : Int))), (1, One (.pointer (some ⟨w.heap.size, 195, none⟩))), (2, One (.pointer (some ⟨w.heap.size, 195 + i, none⟩))), (3, One (.float .f32 (B.s i))), (4, One (.float .f32 x)), (5, One (.bool true))] (by kernel_rfl) (by kernel_rfl) (by kernel_rfl) (by kernel_rfl) (by kernel_rfl) (by kernel_rfl) (by kernel_rfl) (by kernel_rfl) (by kernel_rfl) rfl ((Quiet.refl _).drewN 1) ?_
      refine calm_pure (some 15) (by kernel_rfl) (by kernel_rfl) (by kernel_rfl) (fun _ => by kernel_rfl) ?_
      refine calm_pure (some 16) (by kernel_rfl) (by kernel_rfl) (by kernel_rfl) (fun _ => by kernel_rfl) ?_
      refine calm_pure (some 17) (by kernel_rfl) (by kernel_rfl) (by kernel_rfl) (index_fld (x := .tmp 16) (y := .tmp 15) (o := 195) (by kernel_rfl) (by kernel_rfl) (by kernel_rfl) hi) ?_
      refine calm_read (some 18) (by kernel_rfl) (by kernel_rfl) (by kernel_rfl) (fun w' hw' => load_cell (ty := 23) (x := .tmp 17) (b := w.heap.size) (o := 195 + i) (by kernel_rfl) (by kernel_rfl) Tryd.underlying23 rfl (kq c1 w' hw')) ?_
      refine calm_read (some 19) (by kernel_rfl) (by kernel_rfl) (by kernel_rfl) (fun w' hw' => load_cell (ty := 23) (x := .tmp 3) (b := (w.heap.size + 1)) (o := 0) (by kernel_rfl) (by kernel_rfl) Tryd.underlying23 rfl (kq c2 w' hw')) ?_
      refine calm_pure (some 20) (by kernel_rfl) (by kernel_rfl) (by kernel_rfl) (fun _ => by rw [← Hg.out]; kernel_rfl) ?_
      refine calm_end fun W3 hw3 => plan_end (Clean.normal ?_)
      have c3 := kq h1 W3 hw3
      have f3 := hw3.frozen h2
      have Q3 := Lib.hid hw3
      clear hw3
      simp only [Act.put, List.setIfInBounds_toArray, List.set_cons_zero, List.set_cons_succ]
      gi_upto_region 7 with (fail)
      refine wpIn_region_calm (ops' := regOf Tryd.f37 7) [0, 1, 2, 3] [4] (.run 4 .fin) (Quiet W3) [(0, One (.int .u64 (m : Int))), (1, One (.int .i64 (i : Int))), (2, One (.int .u64 (IntKind.u64.wrap (2 ^ i)))), (3, One (.int .u64 ((m ||| 2 ^ i : Nat) : Int)))] (by kernel_rfl) (by kernel_rfl) (by kernel_rfl) (by kernel_rfl) (by kernel_rfl) (by kernel_rfl) (by kernel_rfl) (by kernel_rfl) (by kernel_rfl) rfl ((Quiet.refl _).drewN 1) ?_
      refine calm_read (some 21) (by kernel_rfl) (by kernel_rfl) (by kernel_rfl) (fun w' hw' => load_cell (ty := 25) (x := .tmp 6) (b := N) (o := 0) (by kernel_rfl) (by kernel_rfl) Tryd.underlying25 rfl (kq c3 w' hw')) ?_
      refine calm_pure (some 22) (by kernel_rfl) (by kernel_rfl) (by kernel_rfl) (fun _ => by kernel_rfl) ?_
      refine calm_pure (some 23) (by kernel_rfl) (by kernel_rfl) (by kernel_rfl) (fun _ => shl_op (t := 2) (x := .const (.int .u64 1)) (y := .tmp 22) (by kernel_rfl) (by kernel_rfl) (by kernel_rfl) hi _) ?_
      refine calm_pure (some 24) (by kernel_rfl) (by kernel_rfl) (by kernel_rfl) (fun _ => by rw [← O.out]; kernel_rfl) ?_
      refine calm_end fun w' hw' => plan_do none undef (w'.setCell ⟨N, 0, none⟩ (.int .u64 ((m ||| 2 ^ i : Nat) : Int))) (by kernel_rfl) (by kernel_rfl) (by kernel_rfl) (.inr ⟨store_u64 (ty := 25) (x := .tmp 6) (y := .tmp 24) (by kernel_rfl) (by kernel_rfl) (by kernel_rfl) (by kernel_rfl) (kq c3 w' hw') (hw'.frozen f3), rfl⟩) trivial (plan_end (Clean.normal ?_))
      have Qw : Quiet W2 w' := Q3.out.trans hw'
      refine ⟨KeepsOthers.trans (B := w') (KeepsOthers.of_below' (Qw.below _)) (KeepsOthers.setCell _ _ _), (Qw.below _).setCell (p := ⟨N, 0, none⟩) (Nat.le_refl _) _, ⟨?_, ?_, ?_⟩, HB2.out.trans ((Qw.below _).setCell (p := ⟨N, 0, none⟩) (Nat.le_refl _) _)⟩
      · rw [HN'.out, E.out]; exact World.cell?_setCell_same' _ _ _ (by rw [kq c3 w' hw']; rfl)
      · rw [World.frozen?_setCell]; exact hw'.frozen f3
      · intro j hj
        rw [HN'.out, List.mem_append, List.mem_singleton] at hj
        rcases hj with h | rfl
        · exact H3.out j h
        · exact hi
  case done =>
    rintro D W2 hD ⟨h1, h2, h3⟩ hB2 hK
    rw [← isL_full] at h1
    have HB3 := Lib.hid (HY.out.trans (hB2.mono (by omega)))
    have hwD : w.heap.size ≤ D := by omega
    clear h2 h3 cY hm0 hD hB2 cN fN
    go_wp2
    exact ret_marks hK (fun W' _ => by simp [results, Tryd.results37, go_sem] <;> rfl) (fun W' _ hb => ⟨congrArg Ending.returned R.out.symm, HB3.out.trans (hb _ hwD)⟩)
  case stop =>
    rintro D c pre W _ _ h _ _
    exact h.elim
end Go.Proofs.YtjmekgogaiokpaaDoor
