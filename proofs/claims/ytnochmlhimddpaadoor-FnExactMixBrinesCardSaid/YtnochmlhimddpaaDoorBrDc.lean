/- DecaySalt: both sides. Condition (the program's): the table of math/bits is laid. -/
import Derived.Test.YtnochmlhimddpaaDoorBrRv
import Derived.Test.YtnochmlhimddpaaDoorDec
import Derived.Test.YtnochmlhimddpaaDoorEqN
import Derived.Test.YtnochmlhimddpaaDoorPlanL
namespace Go.Proofs.YtnochmlhimddpaaDoor
open Go.RowKit Go.Shelf
attribute [local go_sem] Oper.semAt_some run_store_float
set_option linter.unusedSimpArgs false
set_option linter.unusedVariables false

/-- The salt of the first cells has decayed. -/
def DecTo (B : Brn) (q n k : Nat) (f : Nat → Nat) : Prop := ∀ i, i < 64 → num .f32 (f i) = if (decide (i < k) && isB B.G i) = true then dcO (num .f32 (B.s i)) q n else num .f32 (B.s i)
theorem decTo_zero (B : Brn) (q n : Nat) : DecTo B q n 0 B.s := fun i _ => by simp
theorem decTo_no {B : Brn} {q n k : Nat} {f : Nat → Nat} (h : DecTo B q n k f) (hi : isB B.G k = false) : DecTo B q n (k + 1) f := fun i hl => by
  rw [h i hl]
  by_cases e : i = k
  · subst e; simp [hi]
  · have : decide (i < k + 1) = decide (i < k) := by simp; omega
    rw [this]
theorem decTo_yes {B : Brn} {q n k r : Nat} {f : Nat → Nat} (h : DecTo B q n k f) (hk : k < 64) (hi : isB B.G k = true) (hr : num .f32 r = dcO (num .f32 (f k)) q n) : DecTo B q n (k + 1) (upd f k r) := fun i hl => by
  unfold upd
  by_cases e : i = k
  · subst e
    have h0 := h i hl
    simp at h0
    simp [hi, hr, h0]
  · rw [if_neg e, h i hl]
    have : decide (i < k + 1) = decide (i < k) := by simp; omega
    rw [this]
/-- What DecaySalt answers. -/
def DecV (B : Brn) (q : Nat) (n : Int) (e : Ending) : Prop := if brnB B = true then (if canB q n = true then ∃ f, e = .returned (BN { B with s := f } 0) ∧ DecTo B q n.toNat 64 f else e = .returned (BN zB 2)) else e = .returned (BN zB 1)
theorem amt_zero : amtB 0 = true := by decide +kernel
theorem dk_zero (q : Nat) (n : Int) : dkB 0 q n = canB q n := by unfold dkB; rw [amt_zero]; rfl

set_option maxRecDepth 100000 in
set_option maxHeartbeats 4000000 in
theorem specDecay_any (B : Brn) (q : Nat) (n : Int) (w : World) (hG : BrnOk B) :
    Calls Tryd.prog 16 #[.agg (BrnA B), .float .f32 q, .int .i64 n] w fun e w' => DecV B q n e ∧ Below w.heap.size w w' := by
  have hz := (zero_of_info zeroBrine).1
  cases hv : brnB B
  · have Hv := Lib.hid hv
    have R := Lib.hid (show ∀ e, e = Ending.returned (BN zB 1) → DecV B q n e from fun e h => by unfold DecV; rw [hv, if_neg (by decide)]; exact h)
    clear hv
    go_enter Tryd.func16, Tryd.ntmps16
    go_upto_region 1 with (fail)
    obtain ⟨W, hW, hs, b1, b2, hB⟩ := bbox2 B zB 36 36 w
    rw [hW]
    clear hW
    have B1 := Lib.hid b1
    have B2 := Lib.hid b2
    have HB := Lib.hid hB
    have HG := Lib.hid hG
    clear b1 b2 hB hG
    go_upto_region 2 with (go_at_call 41; have hc := (l05Ok_any B (w.heap.size) W B1.out.at' HG.out); rw [Hv.out] at hc; refine hc.mono ?_; clear hc; rintro e w1 ⟨rfl, hq⟩; have HQ := Lib.hid hq; clear hq)
    have g2 := Lib.hid (B2.out.below (HQ.out.below (w.heap.size + 1 + 1)) (by omega))
    go_wp2_with (refine st_stage 36 rfl ?_; refine wpList_store_mid rfl 36 _ _ rfl _ 0 (BrnA zB) rfl rfl (by rw [BrnA_size]; with_reducible exact g2.out.there) (by rw [BrnA_size]; exact infoBrine) (BrnA_one _) ?_)
    exact bodyPost_ret (ret_BN rfl rfl rfl g2.out.store.range) rfl ⟨R.out _ rfl, below_setCells _ (by omega) _ _ _ (HB.out.trans (HQ.out.below _))⟩
  cases hc : canB q n
  · have Hv := Lib.hid hv
    have Hc := Lib.hid hc
    have R := Lib.hid (show ∀ e, e = Ending.returned (BN zB 2) → DecV B q n e from fun e h => by unfold DecV; rw [hv, if_pos rfl, hc, if_neg (by decide)]; exact h)
    clear hv hc
    go_enter Tryd.func16, Tryd.ntmps16
    go_upto_region 1 with (fail)
    obtain ⟨W, hW, hs, b1, b2, hB⟩ := bbox2 B zB 36 36 w
    rw [hW]
    clear hW
    have B1 := Lib.hid b1
    have B2 := Lib.hid b2
    have HB := Lib.hid hB
    have HG := Lib.hid hG
    clear b1 b2 hB hG
    go_upto_region 4 with (first | (go_at_call 41; have hc := (l05Ok_any B (w.heap.size) W B1.out.at' HG.out); rw [Hv.out] at hc; refine hc.mono ?_; clear hc; rintro e w1 ⟨rfl, hq⟩; have HQ := Lib.hid hq; clear hq) | (go_at_call 47; have hc := l05Keep_any 0 q n w1; rw [dk_zero, Hc.out] at hc; refine hc.mono ?_; clear hc; rintro e w' ⟨rfl, hww⟩; rw [← hww]; clear hww w'))
    have g2 := Lib.hid (B2.out.below (HQ.out.below (w.heap.size + 1 + 1)) (by omega))
    go_wp2_with (refine st_stage 36 rfl ?_; refine wpList_store_mid rfl 36 _ _ rfl _ 0 (BrnA zB) rfl rfl (by rw [BrnA_size]; with_reducible exact g2.out.there) (by rw [BrnA_size]; exact infoBrine) (BrnA_one _) ?_)
    exact bodyPost_ret (ret_BN rfl rfl rfl g2.out.store.range) rfl ⟨R.out _ rfl, below_setCells _ (by omega) _ _ _ (HB.out.trans (HQ.out.below _))⟩
  have hm : movesB n = true := by unfold canB at hc; simp only [Bool.and_eq_true] at hc; exact hc.2
  obtain ⟨m, rfl, hm2⟩ := moves_nat hm
  have Hv := Lib.hid hv
  have Hc := Lib.hid hc
  have R := Lib.hid (show ∀ e, (∃ f, e = Ending.returned (BN { B with s := f } 0) ∧ DecTo B q m 64 f) → DecV B q (m : Int) e from fun e h => by unfold DecV; rw [hv, if_pos rfl, hc, if_pos rfl, Int.toNat_natCast]; exact h)
  clear hv hc hm
  go_enter Tryd.func16, Tryd.ntmps16
  go_upto_region 1 with (fail)
  obtain ⟨W, hW, hs, b1, b2, hB⟩ := bbox2 B zB 36 36 w
  rw [hW]
  clear hW
  have B1 := Lib.hid b1
  have B2 := Lib.hid b2
  have HB := Lib.hid hB
  have HG := Lib.hid hG
  clear b1 b2 hB hG
  go_upto_region 6 with (first | (go_at_call 41; have hc := (l05Ok_any B (w.heap.size) W B1.out.at' HG.out); rw [Hv.out] at hc; refine hc.mono ?_; clear hc; rintro e w1 ⟨rfl, hq⟩; have HQ := Lib.hid hq; clear hq) | (go_at_call 47; have hc := l05Keep_any 0 q (m : Int) w1; rw [dk_zero, Hc.out] at hc; refine hc.mono ?_; clear hc; rintro e w' ⟨rfl, hww⟩; rw [← hww]; clear hww w'))
  have P1 := Lib.hid (B1.out.below (HQ.out.below (w.heap.size + 1)) (by omega))
  have P2 := Lib.hid (B2.out.below (HQ.out.below (w.heap.size + 1 + 1)) (by omega))
  have P3 := Lib.hid (HB.out.trans (HQ.out.below _))
  clear B1 B2 HB HQ
  go_loopw [8] (fun i wr => ∃ (k : Nat) (f : Nat → Nat), k ≤ 64 ∧ i = .int .i64 k ∧ Hid (BrnBox wr w.heap.size { B with s := f }) ∧ Hid (BrnBox wr (w.heap.size + 1) zB) ∧ Hid (Below w.heap.size w wr) ∧ Hid (DecTo B q m k f)) (fun i _ => 64 - (intOf i).toNat)
  case atStart => exact ⟨0, B.s, by omega, rfl, P1, P2, P3, Lib.hid (decTo_zero _ _ _)⟩
  case round =>
    clear P1 P2 P3
    obtain ⟨k, f, hk, rfl, Q1, Q2, Q3, Q4⟩ := hrel
    by_cases hlt : k < 64
    · have hk2 : (k : Int) < 64 := by omega
      cases hi : isB B.G k
      · have Hi := Lib.hid hi
        have E := Lib.hid (decTo_no Q4.out hi)
        clear hi
        go_wp2_with (go_at_call 48; refine (l01Is_is B.G k hlt false Hi.out _ _ Q1.out.at'.g HG.out.g).mono ?_; rintro e w' ⟨rfl, rfl⟩)
        go_roundw
        case rel => exact ⟨k + 1, f, by omega, by go_num, Q1, Q2, Q3, E⟩
        case measure => simp [intOf]; omega
      · have Hi := Lib.hid hi
        clear hi
        have cs := Grd_fld Q1.out.s k hlt
        have cs' : wr.cell? ⟨w.heap.size, 195 + k, none⟩ = some (.float .f32 (f k)) := cs
        have ti := Q1.out.at_some (195 + k) (by omega)
        clear cs
        go_wp2_with (first | (go_at_call 48; refine (l01Is_is B.G k hlt true Hi.out _ _ Q1.out.at'.g HG.out.g).mono ?_; rintro e w' ⟨rfl, rfl⟩) | (go_at_call 49; refine (l05Decay_any (f k) q m hm2 _).mono ?_; rintro e V1 ⟨r, rfl, hr, hq⟩; have HR := Lib.hid hr; have HQ := Lib.hid hq; have q1 := Lib.hid (Q1.out.below (hq.below (w.heap.size + 1)) (by omega)); obtain ⟨u, hu⟩ := Option.isSome_iff_exists.1 (q1.out.at_some (195 + k) (by omega)); have f0 := q1.out.free (195 + k) (by omega); clear hr hq))
        go_roundw
        case rel => exact ⟨k + 1, upd f k r, by omega, by go_num, Lib.hid (q1.out.putS hlt), Lib.hid ((Q2.out.below (HQ.out.below (w.heap.size + 1 + 1)) (by omega)).far (by omega)), Lib.hid ((Q3.out.trans (HQ.out.below _)).setCell (p := ⟨w.heap.size, 195 + k, none⟩) (by simp) _), Lib.hid (decTo_yes Q4.out hlt Hi.out HR.out)⟩
        case measure => simp [intOf]; omega
    · obtain rfl : k = 64 := by omega
      have rr := Q1.out.range
      go_wp2_with (first | (refine ld_stage 36 rfl ?_; refine wpList_load_mid rfl 36 _ rfl (w.heap.size) 0 rfl (BrnL { B with s := f }) _ rr Tryd.underlying36 rfl (by rw [BrnL_length]; exact infoBrine) ?_) | (refine st_stage 36 rfl ?_; refine wpList_store_mid rfl 36 _ _ rfl _ 0 (BrnA { B with s := f }) rfl rfl (by rw [BrnA_size]; with_reducible exact Q2.out.there) (by rw [BrnA_size]; exact infoBrine) (BrnA_one _) ?_))
      exact bodyPost_ret (ret_BN rfl rfl rfl Q2.out.store.range) rfl ⟨R.out _ ⟨f, rfl, Q4.out⟩, below_setCells _ (by omega) _ _ _ Q3.out⟩

theorem dc_four (B C : Brn) (A D : Array Value) (t u v x : TypeId) (w : World) : ∃ W, (((w.alloc (.cells (BrnA B) t)).alloc (.cells A u)).alloc (.cells D v)).alloc (.cells (BrnA C) x) = W ∧ W.heap.size = w.heap.size + 4 ∧ BrnBox W w.heap.size B ∧ W.rangeAt (w.heap.size + 1) 0 A.toList ∧ W.rangeAt (w.heap.size + 1 + 1) 0 D.toList ∧ BrnBox W (w.heap.size + 1 + 1 + 1) C ∧ Below w.heap.size w W := by
  obtain ⟨V, hV, z1, g1, r1, th1, b1⟩ := fb_two B A t u w
  obtain ⟨U, hU, z2, r2, th2, b2⟩ := one_boxT D v V
  obtain ⟨W, hW, z3, g3, b3⟩ := bbox1 C x U
  rw [hV, hU, hW]
  rw [z1] at r2
  rw [z2, z1] at g3
  have b23 := b2.trans (b3.mono b2.size)
  exact ⟨W, rfl, by omega, g1.below b23 (by omega), range_below r1 b23 (by omega), range_below r2 b3 (by omega), g3, b1.trans (b23.mono (by omega))⟩
theorem dec_next {B : Brn} {q n i r : Nat} {l : List Nat} {f : Nat → Nat} (h : l.Nodup → ∀ j, j < 64 → num .f32 (f j) = if j ∈ l then dcO (num .f32 (B.s j)) q n else num .f32 (B.s j)) (hi : i < 64) (hr : num .f32 r = dcO (num .f32 (f i)) q n) (hn : (l ++ [i]).Nodup) :
    ∀ j, j < 64 → num .f32 (upd f i r j) = if j ∈ l ++ [i] then dcO (num .f32 (B.s j)) q n else num .f32 (B.s j) := by
  rw [List.nodup_append] at hn
  obtain ⟨h1, _, h3⟩ := hn
  have hni : ¬ i ∈ l := fun hm => (h3 i hm i (by simp)) rfl
  intro j hj
  unfold upd
  by_cases e : j = i
  · subst e
    have h0 := h h1 j hj
    rw [if_neg hni] at h0
    rw [if_pos rfl, if_pos (by simp), hr, h0]
  · rw [if_neg e, h h1 j hj]
    simp [e]

set_option maxRecDepth 100000 in
set_option maxHeartbeats 4000000 in
theorem implDecay_any (B : Brn) (q : Nat) (n : Int) (w : World) (hG : BrnOk B) (hT : TabAt w) :
    Calls Tryd.prog 17 #[.agg (BrnA B), .float .f32 q, .int .i64 n] w fun e w' => DecV B q n e ∧ Below w.heap.size w w' := by
  have m64 := cellsN_lt B.G
  have hz := (zero_of_info zeroBrine).1
  cases hv : brnB B
  · have Hv := Lib.hid hv
    have R := Lib.hid (show ∀ e, e = Ending.returned (BN zB 1) → DecV B q n e from fun e h => by unfold DecV; rw [hv, if_neg (by decide)]; exact h)
    clear hv
    go_enter Tryd.func17, Tryd.ntmps17
    go_upto_region 1 with (fail)
    obtain ⟨W, hW, hs, b1, x1, x2, b2, hB⟩ := dc_four B zB #[.float .f32 q] #[.int .i64 n] 36 23 2 36 w
    rw [hW]
    clear hW
    have r1 := b1.range
    have cq := x1 0 _ rfl
    have cn := x2 0 _ rfl
    rw [Nat.zero_add] at cq cn
    have B1 := Lib.hid b1
    have B2 := Lib.hid b2
    have HB := Lib.hid hB
    have HG := Lib.hid hG
    have TW := Lib.hid (hT.below hB (tab_lt hT))
    have hl : w.heap.size + 1 + 1 + 1 < W.heap.size := by omega
    have hgl := tab_lt hT
    clear b1 b2 hB hG hT hs x1 x2
    go_upto_region 2 with (first | (refine ld_stage 36 rfl ?_; refine wpList_load_mid rfl 36 _ rfl (w.heap.size) 0 rfl (BrnL B) _ r1 Tryd.underlying36 rfl (by rw [BrnL_length]; exact infoBrine) ?_) | (go_at_call 44; have hc := (implValidB_any B W HG.out TW.out); rw [Hv.out] at hc; refine hc.mono ?_; clear hc; rintro e V ⟨rfl, hb1⟩; have Hb1 := Lib.hid hb1; clear hb1))
    have g2 := Lib.hid (B2.out.below Hb1.out hl)
    go_wp2_with (refine st_stage 36 rfl ?_; refine wpList_store_mid rfl 36 _ _ rfl _ 0 (BrnA zB) rfl rfl (by rw [BrnA_size]; with_reducible exact g2.out.there) (by rw [BrnA_size]; exact infoBrine) (BrnA_one _) ?_)
    exact bodyPost_ret (ret_BN rfl rfl rfl g2.out.store.range) rfl ⟨R.out _ rfl, below_setCells _ (by omega) _ _ _ (HB.out.trans (Hb1.out.mono (by omega)))⟩
  cases hc : canB q n
  · have Hv := Lib.hid hv
    have Hc := Lib.hid hc
    have R := Lib.hid (show ∀ e, e = Ending.returned (BN zB 2) → DecV B q n e from fun e h => by unfold DecV; rw [hv, if_pos rfl, hc, if_neg (by decide)]; exact h)
    clear hv hc
    go_enter Tryd.func17, Tryd.ntmps17
    go_upto_region 1 with (fail)
    obtain ⟨W, hW, hs, b1, x1, x2, b2, hB⟩ := dc_four B zB #[.float .f32 q] #[.int .i64 n] 36 23 2 36 w
    rw [hW]
    clear hW
    have r1 := b1.range
    have cq := x1 0 _ rfl
    have cn := x2 0 _ rfl
    rw [Nat.zero_add] at cq cn
    have B1 := Lib.hid b1
    have B2 := Lib.hid b2
    have HB := Lib.hid hB
    have HG := Lib.hid hG
    have TW := Lib.hid (hT.below hB (tab_lt hT))
    have hl : w.heap.size + 1 + 1 + 1 < W.heap.size := by omega
    have hgl := tab_lt hT
    clear b1 b2 hB hG hT hs x1 x2
    go_upto_region 3 with (first | (refine ld_stage 36 rfl ?_; refine wpList_load_mid rfl 36 _ rfl (w.heap.size) 0 rfl (BrnL B) _ r1 Tryd.underlying36 rfl (by rw [BrnL_length]; exact infoBrine) ?_) | (go_at_call 44; have hc := (implValidB_any B W HG.out TW.out); rw [Hv.out] at hc; refine hc.mono ?_; clear hc; rintro e V ⟨rfl, hb1⟩; have Hb1 := Lib.hid hb1; clear hb1))
    have zV := Hb1.out.size
    have bV := B1.out.below Hb1.out (by omega)
    have b2V := B2.out.below Hb1.out (by omega)
    have cq := kc cq (by omega) _ Hb1.out
    have cn := kc cn (by omega) _ Hb1.out
    have TV := TW.out.below Hb1.out (tab_lt TW.out)
    have HV := HB.out.trans (Hb1.out.mono (by omega))
    clear B1 B2 TW HB r1
    have B2V := Lib.hid b2V
    have HVV := Lib.hid HV
    clear b2V HV bV TV
    go_wp2_with (first | (go_at_call 50; have hc := canDecay_any q n V; rw [Hc.out] at hc; refine hc.mono ?_; clear hc; rintro e w' ⟨rfl, hww⟩; rw [← hww]; clear hww w') | (refine st_stage 36 rfl ?_; refine wpList_store_mid rfl 36 _ _ rfl _ 0 (BrnA zB) rfl rfl (by rw [BrnA_size]; with_reducible exact B2V.out.there) (by rw [BrnA_size]; exact infoBrine) (BrnA_one _) ?_))
    exact bodyPost_ret (ret_BN rfl rfl rfl B2V.out.store.range) rfl ⟨R.out _ rfl, below_setCells _ (by omega) _ _ _ HVV.out⟩
  have hm : movesB n = true := by unfold canB at hc; simp only [Bool.and_eq_true] at hc; exact hc.2
  obtain ⟨m, rfl, hm2⟩ := moves_nat hm
  have wd := valid_ext (brn_valid hv)
  have Hv := Lib.hid hv
  have Hc := Lib.hid hc
  have R := Lib.hid (show ∀ e, (∃ f, e = Ending.returned (BN { B with s := f } 0) ∧ DecTo B q m 64 f) → DecV B q (m : Int) e from fun e h => by unfold DecV; rw [hv, if_pos rfl, hc, if_pos rfl, Int.toNat_natCast]; exact h)
  clear hv hc hm
  refine (callsIn_wide (n := 6)).1 (callsIn_of_wp_marks Tryd.func17 rfl trivial ?_ rfl)
  simp only [Tryd.ntmps17, List.size_toArray, List.length_cons, List.length_nil, Nat.reduceAdd, Nat.reduceSub, Array.replicate_succ, Array.replicate_zero, List.push_toArray, List.append_toArray, List.nil_append, List.cons_append]
  refine wpIn_wide.2 ?_
  go_upto_region 1 with (fail)
  obtain ⟨W, hW, hs, b1, x1, x2, b2, hB⟩ := dc_four B zB #[.float .f32 q] #[.int .i64 (m : Int)] 36 23 2 36 w
  rw [hW]
  clear hW
  have r1 := b1.range
  have cq := x1 0 _ rfl
  have cn := x2 0 _ rfl
  rw [Nat.zero_add] at cq cn
  have B1 := Lib.hid b1
  have B2 := Lib.hid b2
  have HB := Lib.hid hB
  have HG := Lib.hid hG
  have TW := Lib.hid (hT.below hB (tab_lt hT))
  have hl : w.heap.size + 1 + 1 + 1 < W.heap.size := by omega
  have hgl := tab_lt hT
  clear b1 b2 hB hG hT hs x1 x2
  go_upto_region 3 with (first | (refine ld_stage 36 rfl ?_; refine wpList_load_mid rfl 36 _ rfl (w.heap.size) 0 rfl (BrnL B) _ r1 Tryd.underlying36 rfl (by rw [BrnL_length]; exact infoBrine) ?_) | (go_at_call 44; have hc := (implValidB_any B W HG.out TW.out); rw [Hv.out] at hc; refine hc.mono ?_; clear hc; rintro e V ⟨rfl, hb1⟩; have Hb1 := Lib.hid hb1; clear hb1))
  have zV := Hb1.out.size
  have bV := B1.out.below Hb1.out (by omega)
  have b2V := B2.out.below Hb1.out (by omega)
  have cq := kc cq (by omega) _ Hb1.out
  have cn := kc cn (by omega) _ Hb1.out
  have TV := TW.out.below Hb1.out (tab_lt TW.out)
  have HV := HB.out.trans (Hb1.out.mono (by omega))
  clear B1 B2 TW HB r1
  have BX := Lib.hid bV
  go_upto_region 6 with (first | (go_at_call 50; have hc := canDecay_any q (m : Int) V; rw [Hc.out] at hc; refine hc.mono ?_; clear hc; rintro e w' ⟨rfl, hww⟩; rw [← hww]; clear hww w') | (go_at_call 52; refine (cells_any B.G B.G.wide.toNat B.G.high.toNat (by omega) (by omega) (by omega) (by omega) _ _ BX.out.at'.g).mono ?_; rintro e w' ⟨rfl, rfl⟩) | (go_at_call 51; refine (bitsIn_any (cellsN B.G) _).mono ?_; rintro e w' ⟨rfl, rfl⟩))
  obtain ⟨Y, hY, zY, rY, uY, hbY⟩ := one_boxT #[.int .u64 (cellsN B.G)] 25 V
  rw [hY]
  have hm0 := rY 0 _ rfl
  rw [Nat.zero_add] at hm0
  have BY := Lib.hid (bV.below hbY (by omega))
  have B2Y := Lib.hid (b2V.below hbY (by omega))
  have cq := kc cq (by omega) _ hbY
  have cn := kc cn (by omega) _ hbY
  have TY := TV.below hbY (tab_lt TV)
  have HY := Lib.hid (HV.trans (hbY.mono (by omega)))
  clear hY rY uY bV b2V TV HV hbY BX wd
  refine (wpIn_wide (n := 6)).1 (wp_bits 20 21 8 V.heap.size w.heap.size (cellsN B.G) m64 rfl hm0 TY (by omega) (by omega)
    (fun pre W2 => ∃ f : Nat → Nat, BrnBox W2 w.heap.size { B with s := f } ∧ BrnBox W2 (w.heap.size + 1 + 1 + 1) zB ∧ W2.cell? ⟨w.heap.size + 1, 0, none⟩ = some (.float .f32 q) ∧ W2.cell? ⟨w.heap.size + 1 + 1, 0, none⟩ = some (.int .i64 (m : Int)) ∧ (pre.Nodup → ∀ j, j < 64 → num .f32 (f j) = if j ∈ pre then dcO (num .f32 (B.s j)) q m else num .f32 (B.s j))) (fun _ _ _ => False)
    (fun s A B h ⟨C, h1, h2, h3, h4, h5⟩ => ⟨C, ⟨⟨h.grd h1.at'.g, h.range h1.at'.s, h.range h1.at'.p, h.cell h1.at'.r⟩, h.there h1.there⟩, ⟨⟨h.grd h2.at'.g, h.range h2.at'.s, h.range h2.at'.p, h.cell h2.at'.r⟩, h.there h2.there⟩, h.cell h3, h.cell h4, h5⟩) (fun _ _ _ _ _ h => h) ⟨B.s, BY.out, B2Y.out, cq, cn, fun _ j _ => by simp⟩ ?assign ?body ?done ?stop)
  case assign =>
    intro l x W K hK
    simp only [List.setIfInBounds_toArray, List.set_cons_zero, List.set_cons_succ] at hK ⊢
    gi_wp2
    exact hK
  case body =>
    rintro l pre y W2 ⟨f, h1, h2, cq, cn, h4⟩ hB2 hbit hi
    simp only [List.setIfInBounds_toArray, List.set_cons_zero, List.set_cons_succ]
    have hN' : nos (pre ++ [y]) = nos pre ++ [y.1] := nos_snoc _ _
    generalize y.1 = i at hi hN' hbit ⊢
    have HN' := Lib.hid hN'
    have Hn := Lib.hid (fun r hr => dec_next (r := r) h4 hi hr)
    have HB2 := Lib.hid hB2
    have H1 := Lib.hid h1
    have H2 := Lib.hid h2
    have hi2 : (i : Int) < 64 := by omega
    have cs := Grd_fld h1.s i hi
    have cs : W2.cell? ⟨w.heap.size, 195 + i, none⟩ = some (.float .f32 (f i)) := cs
    clear hN' hB2 hbit h1 h2 h4
    refine wpIn_block ?_
    gi_upto_region 7 with (fail)
    refine wpIn_region_planL (ops' := regOf Tryd.f17 7) (b := 13) (.take 0 (.take 1 (.take 2 (.take 3 (.take 4 (.take 5 (.take 6 (.take 11 (.run 7 (.take 8 (.take 9 (.take 10 (.take 12 (.run 13 .fin)))))))))))))) (Quiet W2) (by kernel_rfl) (by kernel_rfl) (by kernel_rfl) (by kernel_rfl) (by kernel_rfl) (by kernel_rfl) (by kernel_rfl) ((Quiet.refl _).drewN 1) ?_
    refine planL_pure (some 23) (.int .i64 (i : Int)) (by decide) (by kernel_rfl) (by kernel_rfl) (by kernel_rfl) (fun _ => by kernel_rfl) ?_
    refine planL_pure (some 24) (.int .i64 (i : Int)) (by decide) (by kernel_rfl) (by kernel_rfl) (by kernel_rfl) (fun _ => by kernel_rfl) ?_
    refine planL_pure (some 25) (.pointer (some ⟨w.heap.size, 195, none⟩)) (by decide) (by kernel_rfl) (by kernel_rfl) (by kernel_rfl) (fun _ => by kernel_rfl) ?_
    refine planL_pure (some 26) (.pointer (some ⟨w.heap.size, 195 + i, none⟩)) (by decide) (by kernel_rfl) (by kernel_rfl) (by kernel_rfl) (index_fld (x := .tmp 25) (y := .tmp 24) (o := 195) (by kernel_rfl) (by kernel_rfl) (by kernel_rfl) hi) ?_
    refine planL_read (some 27) _ (by decide) (by kernel_rfl) (by kernel_rfl) (by kernel_rfl) (by kernel_rfl) (fun w' hw' => load_cell (ty := 23) (x := .tmp 26) (b := w.heap.size) (o := 195 + i) (by kernel_rfl) (by kernel_rfl) Tryd.underlying23 rfl (kq cs w' hw')) ?_
    refine planL_read (some 28) _ (by decide) (by kernel_rfl) (by kernel_rfl) (by kernel_rfl) (by kernel_rfl) (fun w' hw' => load_cell (ty := 23) (x := .tmp 4) (b := (w.heap.size + 1)) (o := 0) (by kernel_rfl) (by kernel_rfl) Tryd.underlying23 rfl (kq cq w' hw')) ?_
    refine planL_read (some 29) _ (by decide) (by kernel_rfl) (by kernel_rfl) (by kernel_rfl) (by kernel_rfl) (fun w' hw' => load_cell (ty := 2) (x := .tmp 5) (b := (w.heap.size + 1 + 1)) (o := 0) (by kernel_rfl) (by kernel_rfl) Tryd.underlying2 rfl (kq cn w' hw')) ?_
    refine planL_pure (some 33) (.pointer (some ⟨w.heap.size, 195, none⟩)) (by decide) (by kernel_rfl) (by kernel_rfl) (by kernel_rfl) (fun _ => by kernel_rfl) ?_
    refine planL_call (some 30) 53 #[.float .f32 (f i), .float .f32 q, .int .i64 (m : Int), .func (.func 54) #[] #[]] (by kernel_rfl) (by kernel_rfl) (by kernel_rfl) (by kernel_rfl) ((decayNever_any (f i) q m hm2 _).mono ?_)
    rintro _ w1 ⟨r31, rfl, hr31, hq1⟩
    have hw1 : Quiet W2 w1 := ((Quiet.refl _).drewN 1).trans hq1
    refine ⟨_, rfl, hw1, ?_⟩
    refine planL_pure (some 22) (.tuple #[.float .f32 r31, .int .i64 (m : Int)]) (by decide) (by kernel_rfl) (by kernel_rfl) (by kernel_rfl) (fun _ => by kernel_rfl) ?_
    refine planL_pure (some 31) (.float .f32 r31) (by decide) (by kernel_rfl) (by kernel_rfl) (by kernel_rfl) (fun _ => by kernel_rfl) ?_
    refine planL_pure (some 32) (.int .i64 (m : Int)) (by decide) (by kernel_rfl) (by kernel_rfl) (by kernel_rfl) (fun _ => by kernel_rfl) ?_
    refine planL_pure (some 34) (.pointer (some ⟨w.heap.size, 195 + i, none⟩)) (by decide) (by kernel_rfl) (by kernel_rfl) (by kernel_rfl) (index_fld (x := .tmp 33) (y := .tmp 23) (o := 195) (by kernel_rfl) (by kernel_rfl) (by kernel_rfl) hi) ?_
    have q1 := H1.out.below (hw1.below (w.heap.size + 1)) (by omega)
    obtain ⟨u, hu⟩ := Option.isSome_iff_exists.1 (q1.at_some (195 + i) (by omega))
    refine planL_last none undef (w1.setCell ⟨w.heap.size, 195 + i, none⟩ (.float .f32 r31)) (by kernel_rfl) (by kernel_rfl) (by kernel_rfl) (.inr ⟨store_f32 (x := .tmp 34) (y := .tmp 31) (by kernel_rfl) (by kernel_rfl) (by kernel_rfl) infoF32 hu (q1.free (195 + i) (by omega)), rfl⟩) (planL_end (Clean.normal ?_))
    have Y3 : Below w.heap.size W2 (w1.setCell ⟨w.heap.size, 195 + i, none⟩ (.float .f32 r31)) := (hw1.below _).setCell (p := ⟨w.heap.size, 195 + i, none⟩) (by simp) _
    refine ⟨KeepsOthers.trans (B := w1) (KeepsOthers.of_below' (hw1.below _)) (KeepsOthers.setCell _ _ _), Y3, ⟨_, q1.putS hi, ?_, ?_, ?_, fun hn => ?_⟩, HB2.out.trans Y3⟩
    · exact (H2.out.below (hw1.below (w.heap.size + 1 + 1 + 1 + 1)) (by omega)).far (by omega)
    · exact (cell_other (fun e => by injection e; omega)).trans (kq cq w1 hw1)
    · exact (cell_other (fun e => by injection e; omega)).trans (kq cn w1 hw1)
    · rw [HN'.out] at hn ⊢
      exact Hn.out r31 hr31 hn
  case done =>
    rintro D W2 hD ⟨f, h1, h2, h3, h3', h4⟩ hB2 hK
    have e := h4 (bitsL_once _)
    have E := Lib.hid (show DecTo B q m 64 f from fun i hi => by
      rw [e i hi]
      have : (i ∈ bitsL (cellsN B.G)) ↔ (decide (i < 64) && isB B.G i) = true := by
        rw [mem_bitsL, cellsN_testBit]
        simp [hi]
      by_cases hq : i ∈ bitsL (cellsN B.G)
      · rw [if_pos hq, if_pos (this.1 hq)]
      · rw [if_neg hq, if_neg (fun h => hq (this.2 h))])
    have r2 := h1.range
    have H2 := Lib.hid h2
    have HB3 := Lib.hid (HY.out.trans hB2)
    have hwD : w.heap.size ≤ D := by omega
    have hDn : D ≠ w.heap.size + 1 + 1 + 1 := by omega
    clear h1 h2 h3 h3' h4 hm0 hD hB2 cq cn TY e
    go_upto_region 8 with (fail)
    go_wp2_with (first | (refine ld_stage 36 rfl ?_; refine wpList_load_mid rfl 36 _ rfl (w.heap.size) 0 rfl (BrnL { B with s := f }) _ r2 Tryd.underlying36 rfl (by rw [BrnL_length]; exact infoBrine) ?_) | (refine st_stage 36 rfl ?_; refine wpList_store_mid rfl 36 _ _ rfl _ 0 (BrnA { B with s := f }) rfl rfl (by rw [BrnA_size]; with_reducible exact H2.out.there) (by rw [BrnA_size]; exact infoBrine) (BrnA_one _) ?_))
    have hK4 : (W2.setCells (w.heap.size + 1 + 1 + 1) 0 (BrnL { B with s := f })).heap[D]? = some (.deferred (some [])) := (heap_setCells_other _ hDn).trans hK
    have g5 := H2.out.store (C := { B with s := f })
    exact ret_marks hK4 (fun W' hc => ret_BN rfl rfl rfl (hc.range g5.range)) (fun W' _ hb => ⟨R.out _ ⟨f, rfl, E.out⟩, (below_setCells _ (by omega) _ _ _ HB3.out).trans (hb _ hwD)⟩)
  case stop =>
    rintro D c pre W _ _ h _ _
    exact h.elim

theorem decV_is (B : Brn) (q : Nat) (n : Int) : ∃ (A : Brn) (c : Int) (o : Nat → Option Nat), ∀ e, DecV B q n e → ∃ g, e = .returned (.tuple #[.agg (BrnA { A with s := g }), .int .i64 c]) ∧ ∀ i, i < 64 → num .f32 (g i) = o i := by
  cases hv : brnB B
  · exact ⟨zB, 1, fun i => num .f32 (zB.s i), fun e he => by unfold DecV at he; rw [hv, if_neg (by decide)] at he; exact ⟨zB.s, he, fun _ _ => rfl⟩⟩
  cases hc : canB q n
  · exact ⟨zB, 2, fun i => num .f32 (zB.s i), fun e he => by unfold DecV at he; rw [hv, if_pos rfl, hc, if_neg (by decide)] at he; exact ⟨zB.s, he, fun _ _ => rfl⟩⟩
  · exact ⟨B, 0, _, fun e he => by unfold DecV at he; rw [hv, if_pos rfl, hc, if_pos rfl] at he; exact he⟩
end Go.Proofs.YtnochmlhimddpaaDoor
