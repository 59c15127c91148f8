/- ReverseBrine: both sides; ifValidBrine. Condition (the program's): the table of math/bits is laid. -/
import Derived.Test.YtjmekgogaiokpaaDoorBrSc
import Derived.Test.YtjmekgogaiokpaaDoorPlain
namespace Go.Proofs.YtjmekgogaiokpaaDoor
open Go.RowKit Go.Shelf
attribute [local go_sem] Oper.semAt_some run_store_float
set_option linter.unusedSimpArgs false
set_option linter.unusedVariables false

theorem ret_BN {fn : Func} {p q : Tmp} (h : fn.results = #[.cell p 42, .tmp q]) {tmps : Array Value} {w : World} {b : Nat} {B : Brn} {n : Int}
    (hp : tmps.getD p undef = .pointer (some ⟨b, 0, none⟩)) (hq : tmps.getD q undef = .int .i64 n) (hc : w.rangeAt b 0 (BrnL B)) : (results fn tmps).run Tryd.prog w = .ok (BN B n) w := by
  have hp' : tmps[p]?.getD undef = .pointer (some ⟨b, 0, none⟩) := by simpa using hp
  have hq' : tmps[q]?.getD undef = .int .i64 n := by simpa using hq
  simp [results, h, hp', hq', asAddr, run_loadVar_mid w b 0 42 (BrnL B) _ hc Tryd.underlying42 rfl (by rw [BrnL_length]; exact infoBrine)]
  rfl
def madeB (C : Brn) : Value := if brnB C = true then BN C 0 else BN zB 4
theorem madeB_is (C : Brn) : ∃ (A : Brn) (n : Int), madeB C = .tuple #[.agg (BrnA A), .int .i64 n] := by
  unfold madeB
  split <;> exact ⟨_, _, rfl⟩

set_option maxRecDepth 100000 in
set_option maxHeartbeats 4000000 in
theorem ifValidB_any (B : Brn) (w : World) (hG : BrnOk B) (hT : TabAt w) :
    Calls Tryd.prog 80 #[.agg (BrnA B)] w fun e w' => e = .returned (madeB B) ∧ Below w.heap.size w w' := by
  have hz := (zero_of_info zeroBrine).1
  go_enter Tryd.func80, Tryd.ntmps80
  go_upto_region 1 with (fail)
  obtain ⟨W, hW, hs, g1, g2, hB⟩ := bbox2 B zB 42 42 w
  rw [hW]
  clear hW
  have r1 := g1.range
  have G1 := Lib.hid g1
  have G2 := Lib.hid g2
  have HB := Lib.hid hB
  have TW := Lib.hid (hT.below hB (tab_lt hT))
  have HG := Lib.hid hG
  have hn : w.heap.size + 1 < W.heap.size := by omega
  clear g1 g2 hB hs hG hT
  cases hv : brnB B
  · have Hv := Lib.hid hv
    have R1 := Lib.hid (show madeB B = BN zB 4 by unfold madeB; rw [hv]; rfl)
    clear hv
    go_upto_region 2 with (first | (refine ld_stage 42 rfl ?_; refine wpList_load_mid rfl 42 _ rfl (w.heap.size) 0 rfl (BrnL B) _ r1 Tryd.underlying42 rfl (by rw [BrnL_length]; exact infoBrine) ?_) | (go_at_call 24; have hc := (implValidB_any B W HG.out TW.out); rw [Hv.out] at hc; refine hc.mono ?_; clear hc; rintro e V ⟨rfl, hb1⟩; have Hb1 := Lib.hid hb1; clear hb1))
    have g3 := Lib.hid (G2.out.below Hb1.out hn)
    have B1 := Lib.hid (HB.out.trans (Hb1.out.mono (by omega)))
    clear Hb1 r1
    go_wp2_with (refine st_stage 42 rfl ?_; refine wpList_store_mid rfl 42 _ _ rfl _ 0 (BrnA zB) rfl rfl (by rw [BrnA_size]; with_reducible exact g3.out.there) (by rw [BrnA_size]; exact infoBrine) (BrnA_one _) ?_)
    exact bodyPost_ret (ret_BN rfl rfl rfl g3.out.store.range) rfl ⟨congrArg Ending.returned R1.out.symm, below_setCells _ (by omega) _ _ _ B1.out⟩
  · have Hv := Lib.hid hv
    have R1 := Lib.hid (show madeB B = BN B 0 by unfold madeB; rw [hv]; rfl)
    clear hv hz
    go_upto_region 3 with (first | (refine ld_stage 42 rfl ?_; refine wpList_load_mid rfl 42 _ rfl (w.heap.size) 0 rfl (BrnL B) _ r1 Tryd.underlying42 rfl (by rw [BrnL_length]; exact infoBrine) ?_) | (go_at_call 24; have hc := (implValidB_any B W HG.out TW.out); rw [Hv.out] at hc; refine hc.mono ?_; clear hc; rintro e V ⟨rfl, hb1⟩; have Hb1 := Lib.hid hb1; clear hb1))
    have g3 := Lib.hid (G2.out.below Hb1.out hn)
    have r3 := (G1.out.below Hb1.out (by omega)).range
    have B1 := Lib.hid (HB.out.trans (Hb1.out.mono (by omega)))
    clear Hb1 r1
    go_wp2_with (first | (refine ld_stage 42 rfl ?_; refine wpList_load_mid rfl 42 _ rfl (w.heap.size) 0 rfl (BrnL B) _ r3 Tryd.underlying42 rfl (by rw [BrnL_length]; exact infoBrine) ?_) | (refine st_stage 42 rfl ?_; refine wpList_store_mid rfl 42 _ _ rfl _ 0 (BrnA B) rfl rfl (by rw [BrnA_size]; with_reducible exact g3.out.there) (by rw [BrnA_size]; exact infoBrine) (BrnA_one _) ?_))
    exact bodyPost_ret (ret_BN rfl rfl rfl g3.out.store.range) rfl ⟨congrArg Ending.returned R1.out.symm, below_setCells _ (by omega) _ _ _ B1.out⟩

/-- 0 less a number. -/
def negN (b : Nat) : Nat := (fop .f32 .sub (num .f32 0) (num .f32 b)).getD 0
theorem plain_zero : plainB 0 = true := by decide +kernel
theorem neg_is {b : Nat} (h : plainB b = true) : fop .f32 .sub (num .f32 0) (num .f32 b) = some (negN b) ∧ negN b < 4294967296 := by
  obtain ⟨r, hr, _, hl⟩ := plain_sub plain_zero h
  unfold negN
  rw [hr]
  exact ⟨rfl, hl⟩
theorem neg_num {b r : Nat} (h : plainB b = true) (hr : num .f32 r = fop .f32 .sub (num .f32 0) (num .f32 b)) : r = negN b := by
  rw [(neg_is h).1] at hr
  exact (num_eq_some hr).1
/-- The heads of some cells and the gains of some have changed their sign. -/
def rvB (B : Brn) (lh lg : List Nat) : Brn := { B with G := { B.G with h := fun i => if i ∈ lh then negN (B.G.h i) else B.G.h i, g := fun i => if i ∈ lg then negN (B.G.g i) else B.G.g i } }
theorem rv_fun (f : Nat → Nat) (l : List Nat) (k : Nat) : upd (fun i => if i ∈ l then negN (f i) else f i) k (negN (f k)) = fun i => if i ∈ l ++ [k] then negN (f i) else f i := by
  funext i
  unfold upd
  by_cases e : i = k
  · subst e; simp
  · simp [e]
theorem rvB_h (B : Brn) (lh lg : List Nat) (k : Nat) : { rvB B lh lg with G := { (rvB B lh lg).G with h := upd (rvB B lh lg).G.h k (negN (B.G.h k)) } } = rvB B (lh ++ [k]) lg := by
  unfold rvB
  rw [rv_fun]
theorem rvB_g (B : Brn) (lh lg : List Nat) (k : Nat) : { rvB B lh lg with G := { (rvB B lh lg).G with g := upd (rvB B lh lg).G.g k (negN (B.G.g k)) } } = rvB B lh (lg ++ [k]) := by
  unfold rvB
  rw [rv_fun]
theorem rvB_nil (B : Brn) : rvB B [] [] = B := by simp [rvB]
theorem rvB_ok {B : Brn} {lh lg : List Nat} (hG : BrnOk B) (hl : ∀ i ∈ lg, plainB (B.G.g i) = true) : BrnOk (rvB B lh lg) :=
  ⟨⟨hG.g.wide, hG.g.high, hG.g.x, hG.g.c, fun i hi => by
    unfold rvB
    dsimp only
    split
    · next h => exact (neg_is (hl i h)).2
    · exact hG.g.g i hi, fun _ _ => trivial⟩, hG.s, hG.p, hG.r⟩
theorem cell_plain {G : Gd} {k : Nat} (hv : validB G = true) (hk : k < 64) (hi : isB G k = true) : plainB (G.g k) = true ∧ plainB (G.h k) = true := by
  rw [validB_eq] at hv
  simp only [Bool.and_eq_true] at hv
  have h := (List.all_eq_true.1 hv.2.2.2.1) k (by simpa using hk)
  rw [hi] at h
  simp only [Bool.not_true, Bool.false_or] at h
  unfold cellOk at h
  simp only [Bool.and_eq_true] at h
  exact ⟨h.2.2.1, h.2.2.2⟩
theorem not_mem_isL {G : Gd} {k : Nat} : ¬ k ∈ isL G k := by simp [isL]
def revB (B : Brn) (k : Nat) : Brn := rvB B (isL B.G k) (isL B.G k)
def revV (B : Brn) : Value := if brnB B = true then madeB (revB B 64) else BN zB 1
theorem revV_is (B : Brn) : ∃ (A : Brn) (n : Int), revV B = .tuple #[.agg (BrnA A), .int .i64 n] := by
  unfold revV
  split
  · exact madeB_is _
  · exact ⟨_, _, rfl⟩
theorem revB_ok {B : Brn} (hG : BrnOk B) (hv : validB B.G = true) (k : Nat) (hk : k ≤ 64) : BrnOk (revB B k) := rvB_ok hG fun i hi => (cell_plain hv (isL_lt hk i hi) (List.mem_filter.1 hi).2).1

set_option maxRecDepth 100000 in
set_option maxHeartbeats 4000000 in
theorem specRev_any (B : Brn) (w : World) (hG : BrnOk B) :
    Calls Tryd.prog 43 #[.agg (BrnA B)] w fun e w' => e = .returned (revV B) ∧ Below w.heap.size w w' := by
  have hz := (zero_of_info zeroBrine).1
  go_enter Tryd.func43, Tryd.ntmps43
  go_upto_region 1 with (fail)
  obtain ⟨W, hW, hs, b1, b2, hB⟩ := bbox2 B zB 42 42 w
  rw [hW]
  clear hW
  have B1 := Lib.hid b1
  have B2 := Lib.hid b2
  have HB := Lib.hid hB
  have HG := Lib.hid hG
  clear b1 b2 hB hG
  cases hv : brnB B
  · have Hv := Lib.hid hv
    have R := Lib.hid (show revV B = BN zB 1 by unfold revV; rw [hv]; rfl)
    clear hv
    go_upto_region 2 with (go_at_call 59; have hc := (l05Ok_any B (w.heap.size) W B1.out.at' HG.out); rw [Hv.out] at hc; refine hc.mono ?_; clear hc; rintro e w1 ⟨rfl, hq⟩; have HQ := Lib.hid hq; clear hq)
    have g2 := Lib.hid (B2.out.below (HQ.out.below (w.heap.size + 1 + 1)) (by omega))
    go_wp2_with (refine st_stage 42 rfl ?_; refine wpList_store_mid rfl 42 _ _ rfl _ 0 (BrnA zB) rfl rfl (by rw [BrnA_size]; with_reducible exact g2.out.there) (by rw [BrnA_size]; exact infoBrine) (BrnA_one _) ?_)
    exact bodyPost_ret (ret_BN rfl rfl rfl g2.out.store.range) rfl ⟨congrArg Ending.returned R.out.symm, below_setCells _ (by omega) _ _ _ (HB.out.trans (HQ.out.below _))⟩
  · have Hv := Lib.hid hv
    have HV := Lib.hid (brn_valid hv)
    have R := Lib.hid (show revV B = madeB (revB B 64) by unfold revV; rw [hv]; rfl)
    clear hv
    go_upto_region 3 with (go_at_call 59; have hc := (l05Ok_any B (w.heap.size) W B1.out.at' HG.out); rw [Hv.out] at hc; refine hc.mono ?_; clear hc; rintro e w1 ⟨rfl, hq⟩; have HQ := Lib.hid hq; clear hq)
    have P1 := Lib.hid (show BrnBox w1 w.heap.size (revB B 0) by rw [show revB B 0 = B from rvB_nil B]; exact B1.out.below (HQ.out.below (w.heap.size + 1)) (by omega))
    have P2 := Lib.hid (B2.out.below (HQ.out.below (w.heap.size + 1 + 1)) (by omega))
    have P3 := Lib.hid (HB.out.trans (HQ.out.below _))
    clear B1 B2 HB HQ
    go_wp2
    go_loopw [4] (fun i wr => ∃ k : Nat, k ≤ 64 ∧ i = .int .i64 k ∧ Hid (BrnBox wr w.heap.size (revB B k)) ∧ Hid (BrnBox wr (w.heap.size + 1) zB) ∧ Hid (Below w.heap.size w wr)) (fun i _ => 64 - (intOf i).toNat)
    case atStart => exact ⟨0, by omega, rfl, P1, P2, P3⟩
    case round =>
      clear P1 P2 P3
      obtain ⟨k, hk, rfl, Q1, Q2, Q3⟩ := hrel
      have OKk := Lib.hid (revB_ok HG.out HV.out k hk)
      by_cases hlt : k < 64
      · have hk2 : (k : Int) < 64 := by omega
        cases hi : isB B.G k
        · have Hi := Lib.hid (show isB (revB B k).G k = false from hi)
          have E := Lib.hid (show revB B (k + 1) = revB B k by unfold revB; rw [isL_no hi])
          clear hi
          go_wp2_with (go_at_call 57; refine (l01Is_is (revB B k).G k hlt false Hi.out _ _ Q1.out.at'.g OKk.out.g).mono ?_; rintro e w' ⟨rfl, rfl⟩)
          go_roundw
          case rel => exact ⟨k + 1, by omega, by go_num, by rw [E.out]; exact Q1, Q2, Q3⟩
          case measure => simp [intOf]; omega
        · have Hi := Lib.hid (show isB (revB B k).G k = true from hi)
          have E := Lib.hid (show revB B (k + 1) = rvB B (isL B.G k ++ [k]) (isL B.G k ++ [k]) by unfold revB; rw [isL_yes hi])
          have pl := Lib.hid (cell_plain HV.out hlt hi)
          have ch := Grd_fld Q1.out.at'.g.h k hlt
          have hh : (revB B k).G.h k = B.G.h k := if_neg not_mem_isL
          rw [hh, Nat.zero_add] at ch
          have ti := Q1.out.at_some (130 + k) (by omega)
          obtain ⟨u, hu⟩ := Option.isSome_iff_exists.1 ti
          have f0 := Q1.out.free (130 + k) (by omega)
          clear hi ti hh
          go_upto_region 8 with (first | (go_at_call 57; refine (l01Is_is (revB B k).G k hlt true Hi.out _ _ Q1.out.at'.g OKk.out.g).mono ?_; rintro e w' ⟨rfl, rfl⟩) | (refine wpList_float rfl _ _ _ _ _ rfl rfl .f32 _ _ rfl rfl ?_; intro r1 F1n F1h; have F1 := Lib.hid F1h; clear  F1h))
          have e1 := neg_num pl.out.2 F1.out
          subst e1
          obtain ⟨X, hX⟩ : ∃ X, (World.drewN w' F1n).setCell ⟨w.heap.size, 130 + k, none⟩ (.float .f32 (negN (B.G.h k))) = X := ⟨_, rfl⟩
          have q1 := Q1.out.below (Quiet.below ⟨F1n, rfl⟩ (w.heap.size + 1)) (by omega)
          have X1 := Lib.hid (show BrnBox X w.heap.size (rvB B (isL B.G k ++ [k]) (isL B.G k)) by rw [← hX, ← rvB_h]; exact q1.putH hlt)
          have X2 := Lib.hid (show BrnBox X (w.heap.size + 1) zB by rw [← hX]; exact (Q2.out.below (Quiet.below ⟨F1n, rfl⟩ (w.heap.size + 1 + 1)) (by omega)).far (by omega))
          have X3 := Lib.hid (show Below w.heap.size w X by rw [← hX]; exact (Q3.out.trans (Quiet.below ⟨F1n, rfl⟩ _)).setCell (p := ⟨w.heap.size, 130 + k, none⟩) (by simp) _)
          rw [hX]
          clear hX q1 Q1 Q2 Q3 ch hu f0 F1
          have cg := Grd_fld X1.out.at'.g.g k hlt
          have hh : (rvB B (isL B.G k ++ [k]) (isL B.G k)).G.g k = B.G.g k := if_neg not_mem_isL
          rw [hh, Nat.zero_add] at cg
          have ti := X1.out.at_some (66 + k) (by omega)
          obtain ⟨u2, hu2⟩ := Option.isSome_iff_exists.1 ti
          have f2 := X1.out.free (66 + k) (by omega)
          clear ti hh
          go_wp2_with (refine wpList_float rfl _ _ _ _ _ rfl rfl .f32 _ _ rfl rfl ?_; intro r2 F2n F2h; have F2 := Lib.hid F2h; clear  F2h)
          have e2 := neg_num pl.out.1 F2.out
          subst e2
          have q1 := X1.out.below (Quiet.below ⟨F2n, rfl⟩ (w.heap.size + 1)) (by omega)
          have Y1 := Lib.hid (show BrnBox ((World.drewN X F2n).setCell ⟨w.heap.size, 66 + k, none⟩ (.float .f32 (negN (B.G.g k)))) w.heap.size (revB B (k + 1)) by rw [E.out, ← rvB_g]; exact q1.putG hlt)
          have Y2 := Lib.hid (show BrnBox ((World.drewN X F2n).setCell ⟨w.heap.size, 66 + k, none⟩ (.float .f32 (negN (B.G.g k)))) (w.heap.size + 1) zB from (X2.out.below (Quiet.below ⟨F2n, rfl⟩ (w.heap.size + 1 + 1)) (by omega)).far (by omega))
          have Y3 := Lib.hid (show Below w.heap.size w ((World.drewN X F2n).setCell ⟨w.heap.size, 66 + k, none⟩ (.float .f32 (negN (B.G.g k)))) from (X3.out.trans (Quiet.below ⟨F2n, rfl⟩ _)).setCell (p := ⟨w.heap.size, 66 + k, none⟩) (by simp) _)
          clear q1 X1 X2 X3 cg hu2 f2
          go_roundw
          case rel => exact ⟨k + 1, by omega, by go_num, Y1, Y2, Y3⟩
          case measure => simp [intOf]; omega
      · obtain rfl : k = 64 := by omega
        have Rc := Lib.hid Q1.out.range
        cases hv : brnB (revB B 64)
        · have Hv2 := Lib.hid hv
          have R2 := Lib.hid (R.out.trans (show madeB (revB B 64) = BN zB 4 by unfold madeB; rw [hv]; rfl))
          clear hv
          go_upto_region 10 with (go_at_call 59; have hc := (l05Ok_any (revB B 64) (w.heap.size) wr Q1.out.at' OKk.out); rw [Hv2.out] at hc; refine hc.mono ?_; clear hc; rintro e w2 ⟨rfl, hq⟩; have HQ2 := Lib.hid hq; clear hq)
          have g2 := Lib.hid (Q2.out.below (HQ2.out.below (w.heap.size + 1 + 1)) (by omega))
          go_wp2_with (refine st_stage 42 rfl ?_; refine wpList_store_mid rfl 42 _ _ rfl _ 0 (BrnA zB) rfl rfl (by rw [BrnA_size]; with_reducible exact g2.out.there) (by rw [BrnA_size]; exact infoBrine) (BrnA_one _) ?_)
          exact bodyPost_ret (ret_BN rfl rfl rfl g2.out.store.range) rfl ⟨congrArg Ending.returned R2.out.symm, below_setCells _ (by omega) _ _ _ (Q3.out.trans (HQ2.out.below _))⟩
        · have Hv2 := Lib.hid hv
          have R2 := Lib.hid (R.out.trans (show madeB (revB B 64) = BN (revB B 64) 0 by unfold madeB; rw [hv]; rfl))
          clear hv
          go_upto_region 11 with (go_at_call 59; have hc := (l05Ok_any (revB B 64) (w.heap.size) wr Q1.out.at' OKk.out); rw [Hv2.out] at hc; refine hc.mono ?_; clear hc; rintro e w2 ⟨rfl, hq⟩; have HQ2 := Lib.hid hq; clear hq)
          have g2 := Lib.hid (Q2.out.below (HQ2.out.below (w.heap.size + 1 + 1)) (by omega))
          have rr := HQ2.out.range Rc.out
          go_wp2_with (first | (refine ld_stage 42 rfl ?_; refine wpList_load_mid rfl 42 _ rfl (w.heap.size) 0 rfl (BrnL (revB B 64)) _ rr Tryd.underlying42 rfl (by rw [BrnL_length]; exact infoBrine) ?_) | (refine st_stage 42 rfl ?_; refine wpList_store_mid rfl 42 _ _ rfl _ 0 (BrnA (revB B 64)) rfl rfl (by rw [BrnA_size]; with_reducible exact g2.out.there) (by rw [BrnA_size]; exact infoBrine) (BrnA_one _) ?_))
          exact bodyPost_ret (ret_BN rfl rfl rfl g2.out.store.range) rfl ⟨congrArg Ending.returned R2.out.symm, below_setCells _ (by omega) _ _ _ (Q3.out.trans (HQ2.out.below _))⟩

theorem rv_next {B C : Brn} {l : List Nat} {i r q : Nat} (hv : validB B.G = true) (hi : i < 64) (hb : isB B.G i = true) (hC : l.Nodup → C = rvB B l l)
    (hr : num .f32 r = fop .f32 .sub (num .f32 0) (num .f32 (C.G.h i))) (hq : num .f32 q = fop .f32 .sub (num .f32 0) (num .f32 (C.G.g i))) (hn : (l ++ [i]).Nodup) :
    { C with G := { C.G with h := upd C.G.h i r, g := upd C.G.g i q } } = rvB B (l ++ [i]) (l ++ [i]) := by
  rw [List.nodup_append] at hn
  obtain ⟨h1, _, h3⟩ := hn
  have hni : ¬ i ∈ l := fun hm => (h3 i hm i (by simp)) rfl
  have pl := cell_plain hv hi hb
  have e := hC h1
  subst e
  have eh : (rvB B l l).G.h i = B.G.h i := if_neg hni
  have eg : (rvB B l l).G.g i = B.G.g i := if_neg hni
  rw [eh] at hr
  rw [eg] at hq
  have e1 := neg_num pl.2 hr
  have e2 := neg_num pl.1 hq
  subst e1 e2
  rw [← rvB_g B (l ++ [i]) l i, ← rvB_h B l l i]
theorem bitsL_once (x : Nat) : (bitsL x).Nodup := List.Pairwise.filter _ List.nodup_range

set_option maxRecDepth 100000 in
set_option maxHeartbeats 4000000 in
theorem implRev_any (B : Brn) (w : World) (hG : BrnOk B) (hT : TabAt w) :
    Calls Tryd.prog 44 #[.agg (BrnA B)] w fun e w' => e = .returned (revV B) ∧ Below w.heap.size w w' := by
  have m64 := cellsN_lt B.G
  have hz := (zero_of_info zeroBrine).1
  cases hv : brnB B
  · have Hv := Lib.hid hv
    have R := Lib.hid (show revV B = BN zB 1 by unfold revV; rw [hv]; rfl)
    clear hv
    go_enter Tryd.func44, Tryd.ntmps44
    go_upto_region 1 with (fail)
    obtain ⟨W, hW, hs, b1, b2, hB⟩ := bbox2 B zB 42 42 w
    rw [hW]
    clear hW
    have r1 := b1.range
    have B1 := Lib.hid b1
    have B2 := Lib.hid b2
    have HB := Lib.hid hB
    have HG := Lib.hid hG
    have TW := Lib.hid (hT.below hB (tab_lt hT))
    have hl : w.heap.size + 1 < W.heap.size := by omega
    have hgl := tab_lt hT
    clear b1 b2 hB hG hT hs
    go_upto_region 2 with (first | (refine ld_stage 42 rfl ?_; refine wpList_load_mid rfl 42 _ rfl (w.heap.size) 0 rfl (BrnL B) _ r1 Tryd.underlying42 rfl (by rw [BrnL_length]; exact infoBrine) ?_) | (go_at_call 24; have hc := (implValidB_any B W HG.out TW.out); rw [Hv.out] at hc; refine hc.mono ?_; clear hc; rintro e V ⟨rfl, hb1⟩; have Hb1 := Lib.hid hb1; clear hb1))
    have g2 := Lib.hid (B2.out.below Hb1.out hl)
    go_wp2_with (refine st_stage 42 rfl ?_; refine wpList_store_mid rfl 42 _ _ rfl _ 0 (BrnA zB) rfl rfl (by rw [BrnA_size]; with_reducible exact g2.out.there) (by rw [BrnA_size]; exact infoBrine) (BrnA_one _) ?_)
    exact bodyPost_ret (ret_BN rfl rfl rfl g2.out.store.range) rfl ⟨congrArg Ending.returned R.out.symm, below_setCells _ (by omega) _ _ _ (HB.out.trans (Hb1.out.mono (by omega)))⟩
  have wd := valid_ext (brn_valid hv)
  have HVB := Lib.hid (brn_valid hv)
  have Hv := Lib.hid hv
  have R := Lib.hid (show revV B = madeB (revB B 64) by unfold revV; rw [hv]; rfl)
  have OK64 := Lib.hid (revB_ok hG (brn_valid hv) 64 (by omega))
  clear hv
  refine (callsIn_wide (n := 6)).1 (callsIn_of_wp_marks Tryd.func44 rfl trivial ?_ rfl)
  simp only [Tryd.ntmps44, List.size_toArray, List.length_cons, List.length_nil, Nat.reduceAdd, Nat.reduceSub, Array.replicate_succ, Array.replicate_zero, List.push_toArray, List.append_toArray, List.nil_append, List.cons_append]
  refine wpIn_wide.2 ?_
  go_upto_region 1 with (fail)
  obtain ⟨W, hW, hs, b1, b2, hB⟩ := bbox2 B zB 42 42 w
  rw [hW]
  clear hW
  have r1 := b1.range
  have B1 := Lib.hid b1
  have B2 := Lib.hid b2
  have HB := Lib.hid hB
  have HG := Lib.hid hG
  have TW := Lib.hid (hT.below hB (tab_lt hT))
  have hl : w.heap.size + 1 < W.heap.size := by omega
  have hgl := tab_lt hT
  clear b1 b2 hB hG hT hs
  go_upto_region 3 with (first | (refine ld_stage 42 rfl ?_; refine wpList_load_mid rfl 42 _ rfl (w.heap.size) 0 rfl (BrnL B) _ r1 Tryd.underlying42 rfl (by rw [BrnL_length]; exact infoBrine) ?_) | (go_at_call 24; have hc := (implValidB_any B W HG.out TW.out); rw [Hv.out] at hc; refine hc.mono ?_; clear hc; rintro e V ⟨rfl, hb1⟩; have Hb1 := Lib.hid hb1; clear hb1))
  have zV := Hb1.out.size
  have bV := B1.out.below Hb1.out (by omega)
  have b2V := B2.out.below Hb1.out (by omega)
  have TV := TW.out.below Hb1.out (tab_lt TW.out)
  have HV := HB.out.trans (Hb1.out.mono (by omega))
  clear B1 B2 TW HB r1
  go_upto_region 4 with (fail)
  obtain ⟨X, hX, zX, rX, uX, hbX⟩ := one_boxT #[.pointer (some ⟨w.heap.size, 0, none⟩)] 66 V
  rw [hX]
  obtain ⟨N, hN⟩ : ∃ N, V.heap.size = N := ⟨_, rfl⟩
  rw [hN] at rX uX ⊢
  have cN := rX 0 _ rfl
  rw [Nat.zero_add] at cN
  have bX := bV.below hbX (by omega)
  have b2X := b2V.below hbX (by omega)
  have TX := TV.below hbX (tab_lt TV)
  have HX := HV.trans (hbX.mono (by omega))
  clear hX rX uX bV b2V TV HV hbX
  have BX := Lib.hid bX
  go_upto_region 5 with (first | (go_at_call 50; refine (cells_any B.G B.G.wide.toNat B.G.high.toNat (by omega) (by omega) (by omega) (by omega) _ _ BX.out.at'.g).mono ?_; rintro e w' ⟨rfl, rfl⟩) | (go_at_call 51; refine (bitsIn_any (cellsN B.G) _).mono ?_; rintro e w' ⟨rfl, rfl⟩))
  obtain ⟨Y, hY, zY, rY, uY, hbY⟩ := one_boxT #[.int .u64 (cellsN B.G)] 25 X
  rw [hY]
  have hm0 := rY 0 _ rfl
  rw [Nat.zero_add, zX, hN] at hm0
  have BY := Lib.hid (bX.below hbY (by omega))
  have B2Y := Lib.hid (b2X.below hbY (by omega))
  have cN := kc cN (by omega) _ hbY
  have TY := TX.below hbY (tab_lt TX)
  have TYh := Lib.hid TY
  have HY := Lib.hid (HX.trans (hbY.mono (by omega)))
  clear hY rY uY bX b2X TX HX hbY BX wd
  refine (wpIn_wide (n := 6)).1 (wp_bits 13 14 5 (N + 1) w.heap.size (cellsN B.G) m64 rfl hm0 TY (by omega) (by omega)
    (fun pre W2 => ∃ C : Brn, BrnBox W2 w.heap.size C ∧ BrnBox W2 (w.heap.size + 1) zB ∧ W2.cell? ⟨N, 0, none⟩ = some (.pointer (some ⟨w.heap.size, 0, none⟩)) ∧ (pre.Nodup → C = rvB B pre pre)) (fun _ _ _ => False)
    (fun s A B h ⟨C, h1, h2, h3, h4⟩ => ⟨C, ⟨⟨h.grd h1.at'.g, h.range h1.at'.s, h.range h1.at'.p, h.cell h1.at'.r⟩, h.there h1.there⟩, ⟨⟨h.grd h2.at'.g, h.range h2.at'.s, h.range h2.at'.p, h.cell h2.at'.r⟩, h.there h2.there⟩, h.cell h3, h4⟩) (fun _ _ _ _ _ h => h) ⟨B, BY.out, B2Y.out, cN, fun _ => (rvB_nil B).symm⟩ ?assign ?body ?done ?stop)
  case assign =>
    intro l x W K hK
    simp only [List.setIfInBounds_toArray, List.set_cons_zero, List.set_cons_succ] at hK ⊢
    gi_wp2
    exact hK
  case body =>
    rintro l pre y W2 ⟨C, h1, h2, h3, h4⟩ hB2 hbit hi
    simp only [List.setIfInBounds_toArray, List.set_cons_zero, List.set_cons_succ]
    have hN' : nos (pre ++ [y]) = nos pre ++ [y.1] := nos_snoc _ _
    generalize y.1 = i at hi hN' hbit ⊢
    have HN' := Lib.hid hN'
    have hib : isB B.G i = true := by rw [cellsN_testBit] at hbit; simp at hbit; exact hbit.2
    have Hn := Lib.hid (fun r q hr hq => rv_next (r := r) (q := q) HVB.out hi hib h4 hr hq)
    have HB2 := Lib.hid hB2
    have H1 := Lib.hid h1
    have H2 := Lib.hid h2
    have hi2 : (i : Int) < 64 := by omega
    have ch := Grd_fld h1.at'.g.h i hi
    rw [Nat.zero_add] at ch
    clear hN' hB2 hbit h1 h2 h4 hib
    refine wpIn_block ?_
    gi_upto_region 6 with (fail)
    refine wpIn_region_calm (ops' := regOf Tryd.f44 6) [0, 1, 2, 3, 4, 5, 6, 7, 8, 9, 10, 11] [12] (.run 12 .fin) (Quiet W2) [(0, One (.pointer (some ⟨w.heap.size, 0, none⟩))), (1, One (.int .i64 (i : Int))), (2, One (.pointer (some ⟨w.heap.size, 0, none⟩))), (3, One (.int .i64 (i : Int))), (4, One (.pointer (some ⟨w.heap.size, 0, none⟩))), (5, One (.pointer (some ⟨w.heap.size, 130, none⟩))), (6, One (.pointer (some ⟨w.heap.size, 130 + i, none⟩))), (7, One (.float .f32 (C.G.h i))), (8, Numv .f32 (fop .f32 .sub (num .f32 0) (num .f32 (C.G.h i)))), (9, One (.pointer (some ⟨w.heap.size, 0, none⟩))), (10, One (.pointer (some ⟨w.heap.size, 130, none⟩))), (11, One (.pointer (some ⟨w.heap.size, 130 + i, none⟩)))] (by kernel_rfl) (by kernel_rfl) (by kernel_rfl) (by kernel_rfl) (by kernel_rfl) (by kernel_rfl) (by kernel_rfl) (by kernel_rfl) (by kernel_rfl) rfl ((Quiet.refl _).drewN 1) ?_
    refine calm_read (some 15) (by kernel_rfl) (by kernel_rfl) (by kernel_rfl) (fun w' hw' => load_cell (ty := 66) (x := .tmp 4) (b := N) (o := 0) (by kernel_rfl) (by kernel_rfl) Tryd.underlying66 rfl (kq h3 w' hw')) ?_
    refine calm_pure (some 16) (by kernel_rfl) (by kernel_rfl) (by kernel_rfl) (fun _ => by kernel_rfl) ?_
    refine calm_read (some 17) (by kernel_rfl) (by kernel_rfl) (by kernel_rfl) (fun w' hw' => load_cell (ty := 66) (x := .tmp 4) (b := N) (o := 0) (by kernel_rfl) (by kernel_rfl) Tryd.underlying66 rfl (kq h3 w' hw')) ?_
    refine calm_pure (some 18) (by kernel_rfl) (by kernel_rfl) (by kernel_rfl) (fun _ => by kernel_rfl) ?_
    refine calm_pure (some 19) (by kernel_rfl) (by kernel_rfl) (by kernel_rfl) (fun _ => by kernel_rfl) ?_
    refine calm_pure (some 20) (by kernel_rfl) (by kernel_rfl) (by kernel_rfl) (fun _ => by kernel_rfl) ?_
    refine calm_pure (some 21) (by kernel_rfl) (by kernel_rfl) (by kernel_rfl) (index_fld (x := .tmp 20) (y := .tmp 18) (o := 130) (by kernel_rfl) (by kernel_rfl) (by kernel_rfl) hi) ?_
    refine calm_read (some 22) (by kernel_rfl) (by kernel_rfl) (by kernel_rfl) (fun w' hw' => load_cell (ty := 23) (x := .tmp 21) (b := w.heap.size) (o := 130 + i) (by kernel_rfl) (by kernel_rfl) Tryd.underlying23 rfl (kq ch w' hw')) ?_
    refine calm_float (some 23) .f32 .sub 23 23 ((.const (.float .f32 0))) (.tmp 22) (0) ((C.G.h i)) (by kernel_rfl) (by kernel_rfl) (by kernel_rfl) (by kernel_rfl) rfl (by kernel_rfl) (by kernel_rfl) (fun _ n h => h.drewN n) (rfl) ?_
    intro r23 hr23
    refine calm_pure (some 24) (by kernel_rfl) (by kernel_rfl) (by kernel_rfl) (fun _ => by kernel_rfl) ?_
    refine calm_pure (some 25) (by kernel_rfl) (by kernel_rfl) (by kernel_rfl) (fun _ => by kernel_rfl) ?_
    refine calm_pure (some 26) (by kernel_rfl) (by kernel_rfl) (by kernel_rfl) (index_fld (x := .tmp 25) (y := .tmp 16) (o := 130) (by kernel_rfl) (by kernel_rfl) (by kernel_rfl) hi) ?_
    refine calm_end fun w1 hw1 => ?_
    have q1 := H1.out.below (hw1.below (w.heap.size + 1)) (by omega)
    obtain ⟨u, hu⟩ := Option.isSome_iff_exists.1 (q1.at_some (130 + i) (by omega))
    refine plan_do none undef (w1.setCell ⟨w.heap.size, 130 + i, none⟩ (.float .f32 r23)) (by kernel_rfl) (by kernel_rfl) (by kernel_rfl) (.inr ⟨store_f32 (x := .tmp 26) (y := .tmp 23) (by kernel_rfl) (by kernel_rfl) (by kernel_rfl) infoF32 hu (q1.free (130 + i) (by omega)), rfl⟩) trivial (plan_end (Clean.normal ?_))
    obtain ⟨X, hX⟩ : ∃ X, w1.setCell ⟨w.heap.size, 130 + i, none⟩ (.float .f32 r23) = X := ⟨_, rfl⟩
    have X1 := Lib.hid (show BrnBox X w.heap.size { C with G := { C.G with h := upd C.G.h i r23 } } by rw [← hX]; exact q1.putH hi)
    have R23 := Lib.hid hr23
    have X2 := Lib.hid (show BrnBox X (w.heap.size + 1) zB by rw [← hX]; exact (H2.out.below (hw1.below (w.heap.size + 1 + 1)) (by omega)).far (by omega))
    have X3 := Lib.hid (show Below w.heap.size W2 X by rw [← hX]; exact (hw1.below _).setCell (p := ⟨w.heap.size, 130 + i, none⟩) (by simp) _)
    have X4 := Lib.hid (show KeepsOthers W2 X by rw [← hX]; exact KeepsOthers.trans (B := w1) (KeepsOthers.of_below' (hw1.below _)) (KeepsOthers.setCell _ _ _))
    have x3 : X.cell? ⟨N, 0, none⟩ = some (.pointer (some ⟨w.heap.size, 0, none⟩)) := by rw [← hX]; exact (cell_other (fun e => by injection e; omega)).trans (kq h3 w1 hw1)
    rw [hX]
    clear hX hw1 q1 hu ch h3 H1 H2 hr23
    simp only [Act.put, List.setIfInBounds_toArray, List.set_cons_zero, List.set_cons_succ]
    have cg := Grd_fld X1.out.at'.g.g i hi
    rw [Nat.zero_add] at cg
    have cg : X.cell? ⟨w.heap.size, 66 + i, none⟩ = some (.float .f32 (C.G.g i)) := cg
    gi_upto_region 7 with (fail)
    refine wpIn_region_calm (ops' := regOf Tryd.f44 7) [0, 1, 2, 3, 4, 5, 6, 7, 8, 9, 10, 11] [12] (.run 12 .fin) (Quiet X) [(0, One (.pointer (some ⟨w.heap.size, 0, none⟩))), (1, One (.int .i64 (i : Int))), (2, One (.pointer (some ⟨w.heap.size, 0, none⟩))), (3, One (.int .i64 (i : Int))), (4, One (.pointer (some ⟨w.heap.size, 0, none⟩))), (5, One (.pointer (some ⟨w.heap.size, 66, none⟩))), (6, One (.pointer (some ⟨w.heap.size, 66 + i, none⟩))), (7, One (.float .f32 (C.G.g i))), (8, Numv .f32 (fop .f32 .sub (num .f32 0) (num .f32 (C.G.g i)))), (9, One (.pointer (some ⟨w.heap.size, 0, none⟩))), (10, One (.pointer (some ⟨w.heap.size, 66, none⟩))), (11, One (.pointer (some ⟨w.heap.size, 66 + i, none⟩)))] (by kernel_rfl) (by kernel_rfl) (by kernel_rfl) (by kernel_rfl) (by kernel_rfl) (by kernel_rfl) (by kernel_rfl) (by kernel_rfl) (by kernel_rfl) rfl ((Quiet.refl _).drewN 1) ?_
    refine calm_read (some 27) (by kernel_rfl) (by kernel_rfl) (by kernel_rfl) (fun w' hw' => load_cell (ty := 66) (x := .tmp 4) (b := N) (o := 0) (by kernel_rfl) (by kernel_rfl) Tryd.underlying66 rfl (kq x3 w' hw')) ?_
    refine calm_pure (some 28) (by kernel_rfl) (by kernel_rfl) (by kernel_rfl) (fun _ => by kernel_rfl) ?_
    refine calm_read (some 29) (by kernel_rfl) (by kernel_rfl) (by kernel_rfl) (fun w' hw' => load_cell (ty := 66) (x := .tmp 4) (b := N) (o := 0) (by kernel_rfl) (by kernel_rfl) Tryd.underlying66 rfl (kq x3 w' hw')) ?_
    refine calm_pure (some 30) (by kernel_rfl) (by kernel_rfl) (by kernel_rfl) (fun _ => by kernel_rfl) ?_
    refine calm_pure (some 31) (by kernel_rfl) (by kernel_rfl) (by kernel_rfl) (fun _ => by kernel_rfl) ?_
    refine calm_pure (some 32) (by kernel_rfl) (by kernel_rfl) (by kernel_rfl) (fun _ => by kernel_rfl) ?_
    refine calm_pure (some 33) (by kernel_rfl) (by kernel_rfl) (by kernel_rfl) (index_fld (x := .tmp 32) (y := .tmp 30) (o := 66) (by kernel_rfl) (by kernel_rfl) (by kernel_rfl) hi) ?_
    refine calm_read (some 34) (by kernel_rfl) (by kernel_rfl) (by kernel_rfl) (fun w' hw' => load_cell (ty := 23) (x := .tmp 33) (b := w.heap.size) (o := 66 + i) (by kernel_rfl) (by kernel_rfl) Tryd.underlying23 rfl (kq cg w' hw')) ?_
    refine calm_float (some 35) .f32 .sub 23 23 ((.const (.float .f32 0))) (.tmp 34) (0) ((C.G.g i)) (by kernel_rfl) (by kernel_rfl) (by kernel_rfl) (by kernel_rfl) rfl (by kernel_rfl) (by kernel_rfl) (fun _ n h => h.drewN n) (rfl) ?_
    intro r35 hr35
    refine calm_pure (some 36) (by kernel_rfl) (by kernel_rfl) (by kernel_rfl) (fun _ => by kernel_rfl) ?_
    refine calm_pure (some 37) (by kernel_rfl) (by kernel_rfl) (by kernel_rfl) (fun _ => by kernel_rfl) ?_
    refine calm_pure (some 38) (by kernel_rfl) (by kernel_rfl) (by kernel_rfl) (index_fld (x := .tmp 37) (y := .tmp 28) (o := 66) (by kernel_rfl) (by kernel_rfl) (by kernel_rfl) hi) ?_
    refine calm_end fun w1 hw1 => ?_
    have q1 := X1.out.below (hw1.below (w.heap.size + 1)) (by omega)
    obtain ⟨u, hu⟩ := Option.isSome_iff_exists.1 (q1.at_some (66 + i) (by omega))
    refine plan_do none undef (w1.setCell ⟨w.heap.size, 66 + i, none⟩ (.float .f32 r35)) (by kernel_rfl) (by kernel_rfl) (by kernel_rfl) (.inr ⟨store_f32 (x := .tmp 38) (y := .tmp 35) (by kernel_rfl) (by kernel_rfl) (by kernel_rfl) infoF32 hu (q1.free (66 + i) (by omega)), rfl⟩) trivial (plan_end (Clean.normal ?_))
    have Y3 : Below w.heap.size W2 (w1.setCell ⟨w.heap.size, 66 + i, none⟩ (.float .f32 r35)) := (X3.out.trans (hw1.below _)).setCell (p := ⟨w.heap.size, 66 + i, none⟩) (by simp) _
    refine ⟨X4.out.trans (KeepsOthers.trans (B := w1) (KeepsOthers.of_below' (hw1.below _)) (KeepsOthers.setCell _ _ _)), Y3, ⟨_, q1.putG hi, ?_, ?_, fun hn => ?_⟩, HB2.out.trans Y3⟩
    · exact (X2.out.below (hw1.below (w.heap.size + 1 + 1)) (by omega)).far (by omega)
    · exact (cell_other (fun e => by injection e; omega)).trans (kq x3 w1 hw1)
    · rw [HN'.out] at hn ⊢
      exact Hn.out r23 r35 R23.out hr35 hn
  case done =>
    rintro D W2 hD ⟨C, h1, h2, h3, h4⟩ hB2 hK
    have e := h4 (bitsL_once _)
    rw [← isL_full] at e
    subst e
    have H1 := Lib.hid (show BrnBox W2 w.heap.size (revB B 64) from h1)
    have H2 := Lib.hid h2
    have r2 := H1.out.range
    have T2 := Lib.hid (TYh.out.below hB2 (by omega))
    have HB3 := Lib.hid (HY.out.trans hB2)
    have hwD : w.heap.size ≤ D := by omega
    have hDn : D ≠ w.heap.size + 1 := by omega
    have hDl : D < W2.heap.size := (Array.getElem?_eq_some_iff.1 hK).1
    obtain ⟨A, n, hA⟩ := madeB_is (revB B 64)
    have HA := Lib.hid hA
    have R2 := Lib.hid (R.out.trans hA)
    have hn2 : w.heap.size + 1 < W2.heap.size := h2.lt
    clear h1 h2 h3 h4 hm0 hD hB2 cN hA TYh TY
    go_upto_region 8 with (fail)
    go_wp2_with (first | (refine ld_stage 42 rfl ?_; refine wpList_load_mid rfl 42 _ rfl (w.heap.size) 0 rfl (BrnL (revB B 64)) _ r2 Tryd.underlying42 rfl (by rw [BrnL_length]; exact infoBrine) ?_) | (go_at_call 80; have hc := ifValidB_any (revB B 64) W2 OK64.out T2.out; rw [HA.out] at hc; refine hc.mono ?_; clear hc; rintro e V4 ⟨rfl, h4⟩; have H4 := Lib.hid h4; have g4 := Lib.hid (H2.out.below h4 hn2); clear h4) | (refine st_stage 42 rfl ?_; refine wpList_store_mid rfl 42 _ _ rfl _ 0 (BrnA A) rfl rfl (by rw [BrnA_size]; with_reducible exact g4.out.there) (by rw [BrnA_size]; exact infoBrine) (BrnA_one _) ?_))
    have hK4 : (V4.setCells (w.heap.size + 1) 0 (BrnL A)).heap[D]? = some (.deferred (some [])) := (heap_setCells_other _ hDn).trans ((H4.out.block D hDl).trans hK)
    have g5 := g4.out.store (C := A)
    exact ret_marks hK4 (fun W' hc => ret_BN rfl rfl rfl (hc.range g5.range)) (fun W' _ hb => ⟨congrArg Ending.returned R2.out.symm, (below_setCells _ (by omega) _ _ _ (HB3.out.trans (H4.out.mono (by have := HB3.out.size; omega)))).trans (hb _ hwD)⟩)
  case stop =>
    rintro D c pre W _ _ h _ _
    exact h.elim
end Go.Proofs.YtjmekgogaiokpaaDoor
