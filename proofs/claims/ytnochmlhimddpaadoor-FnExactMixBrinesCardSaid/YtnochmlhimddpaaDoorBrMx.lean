/- MixBrines: both sides. Condition (the program's): the table of math/bits is laid. -/
import Derived.Test.YtnochmlhimddpaaDoorBrDc
namespace Go.Proofs.YtnochmlhimddpaaDoor
open Go.RowKit Go.Shelf
attribute [local go_sem] Oper.semAt_some run_store_float
set_option linter.unusedSimpArgs false
set_option linter.unusedVariables false

/-- The salt of a cell in a mixture. -/
def mixO (A B : Brn) (q i : Nat) : Option Nat := fop .f32 .add (num .f32 (A.s i)) (fop .f32 .mul (num .f32 q) (fop .f32 .sub (num .f32 (B.s i)) (num .f32 (A.s i))))
theorem mixO_ex (A B : Brn) (q i : Nat) : ∃ r, num .f32 r = mixO A B q i := fop_ex _ _ rfl _ _ (num_ex _ _) (fop_ex _ _ rfl _ _ (num_ex _ _) (fop_ex _ _ rfl _ _ (num_ex _ _) (num_ex _ _)))
def MixTo (A B : Brn) (q k : Nat) (f : Nat → Nat) : Prop := ∀ i, i < 64 → num .f32 (f i) = if (decide (i < k) && isB A.G i) = true then mixO A B q i else num .f32 (A.s i)
theorem mixTo_zero (A B : Brn) (q : Nat) : MixTo A B q 0 A.s := fun i _ => by simp
theorem mixTo_no {A B : Brn} {q k : Nat} {f : Nat → Nat} (h : MixTo A B q k f) (hi : isB A.G k = false) : MixTo A B q (k + 1) f := fun i hl => by
  rw [h i hl]
  by_cases e : i = k
  · subst e; simp [hi]
  · have : decide (i < k + 1) = decide (i < k) := by simp; omega
    rw [this]
theorem mixTo_at {A B : Brn} {q k : Nat} {f : Nat → Nat} (h : MixTo A B q k f) (hk : k < 64) : num .f32 (f k) = num .f32 (A.s k) := by
  rw [h k hk]; simp
theorem mixTo_yes {A B : Brn} {q k r : Nat} {f : Nat → Nat} (h : MixTo A B q k f) (hk : k < 64) (hi : isB A.G k = true) (hr : num .f32 r = fop .f32 .add (num .f32 (f k)) (fop .f32 .mul (num .f32 q) (fop .f32 .sub (num .f32 (B.s k)) (num .f32 (f k))))) : MixTo A B q (k + 1) (upd f k r) := fun i hl => by
  unfold upd
  by_cases e : i = k
  · subst e
    rw [mixTo_at h hl] at hr
    simp [hi, hr, mixO]
  · rw [if_neg e, h i hl]
    have : decide (i < k + 1) = decide (i < k) := by simp; omega
    rw [this]
theorem plainB_num {a b : Nat} (h : num .f32 a = num .f32 b) : plainB a = plainB b := by unfold plainB; rw [order_num h rfl, order_num h rfl]
theorem zeroB_num {a b : Nat} (h : num .f32 a = num .f32 b) : zeroB a = zeroB b := by unfold zeroB; rw [order_num h rfl]
theorem negB_num {a b : Nat} (h : num .f32 a = num .f32 b) : negB a = negB b := by unfold negB; rw [order_num h rfl]
/-- Whether a brine is valid does not turn on which NaN its salt is. -/
theorem brnB_num (A : Brn) {f g : Nat → Nat} (h : ∀ i, i < 64 → num .f32 (f i) = num .f32 (g i)) : brnB { A with s := f } = brnB { A with s := g } := by
  unfold brnB
  have e : saltB A.G f = saltB A.G g := by
    unfold saltB fieldB
    congr 1
    · exact all_congr64 fun i hi => by rw [negB_num (h i hi)]
    · exact all_congr64 fun i hi => by unfold okAt; rw [plainB_num (h i hi), zeroB_num (h i hi)]
  show (validB A.G && (saltB A.G f && _)) = (validB A.G && (saltB A.G g && _))
  rw [e]
def sameDim (A B : Brn) : Bool := (A.G.wide == B.G.wide) && (A.G.high == B.G.high)
/-- What MixBrines answers. -/
def MixV (A B : Brn) (q : Nat) (e : Ending) : Prop :=
  if (brnB A && brnB B) = true then (if shareB q = true then (if sameDim A B = true then ∃ f, MixTo A B q 64 f ∧ e = .returned (madeB { A with s := f }) else e = .returned (BN zB 4)) else e = .returned (BN zB 2)) else e = .returned (BN zB 1)
theorem mixV_is (A B : Brn) (q : Nat) : ∃ (C : Brn) (c : Int) (o : Nat → Option Nat), ∀ e, MixV A B q e → ∃ g, e = .returned (.tuple #[.agg (BrnA { C with s := g }), .int .i64 c]) ∧ ∀ i, i < 64 → num .f32 (g i) = o i := by
  have no : ∀ c, ∃ (C : Brn) (c' : Int) (o : Nat → Option Nat), ∀ e, e = Ending.returned (BN zB c) → ∃ g, e = .returned (.tuple #[.agg (BrnA { C with s := g }), .int .i64 c']) ∧ ∀ i, i < 64 → num .f32 (g i) = o i := fun c => ⟨zB, c, fun i => num .f32 (zB.s i), fun e he => ⟨zB.s, he, fun _ _ => rfl⟩⟩
  unfold MixV
  split
  · split
    · split
      · have ex : ∀ i, ∃ r, num .f32 r = if (decide (i < 64) && isB A.G i) = true then mixO A B q i else num .f32 (A.s i) := fun i => by
          split
          · exact mixO_ex A B q i
          · exact num_ex _ _
        have h0 : ∀ f, MixTo A B q 64 f → brnB { A with s := f } = brnB { A with s := fun i => Classical.choose (ex i) } := fun f hf => brnB_num A fun i hi => by rw [hf i hi]; exact (Classical.choose_spec (ex i)).symm
        cases hb : brnB { A with s := fun i => Classical.choose (ex i) }
        · exact ⟨zB, 4, fun i => num .f32 (zB.s i), fun e ⟨f, hf, he⟩ => ⟨zB.s, by rw [he]; unfold madeB; rw [h0 f hf, hb]; rfl, fun _ _ => rfl⟩⟩
        · exact ⟨A, 0, _, fun e ⟨f, hf, he⟩ => ⟨f, by rw [he]; unfold madeB; rw [h0 f hf, hb]; rfl, hf⟩⟩
      · exact no 4
    · exact no 2
  · exact no 1

set_option maxRecDepth 100000 in
set_option maxHeartbeats 4000000 in
theorem specMix_any (A B : Brn) (q : Nat) (w : World) (hA : BrnOk A) (hG : BrnOk B) :
    Calls Tryd.prog 19 #[.agg (BrnA A), .agg (BrnA B), .float .f32 q] w fun e w' => MixV A B q e ∧ Below w.heap.size w w' := by
  have hz := (zero_of_info zeroBrine).1
  go_enter Tryd.func19, Tryd.ntmps19
  go_upto_region 1 with (fail)
  obtain ⟨W, hW, hs, b1, b2, b3, hB⟩ := bbox3 A B zB 36 36 36 w
  rw [hW]
  clear hW
  have B1 := Lib.hid b1
  have B2 := Lib.hid b2
  have B3 := Lib.hid b3
  have HB := Lib.hid hB
  have HS := Lib.hid hs
  have HA := Lib.hid hA
  have HG := Lib.hid hG
  clear b1 b2 b3 hB hA hG hs
  have hs := HS.out
  have tk : True := trivial
  cases hvA : brnB A
  · have HvA := Lib.hid hvA
    have R := Lib.hid (show ∀ e, e = Ending.returned (BN zB 1) → MixV A B q e from fun e h => by unfold MixV; rw [hvA, Bool.false_and, if_neg (by decide)]; exact h)
    clear hvA hs
    go_upto_region 2 with (first | (have _t := tk; go_at_call 41; have hc := (l05Ok_any A (w.heap.size) W B1.out.at' HA.out); rw [HvA.out] at hc; refine hc.mono ?_; clear hc; rintro e w1 ⟨rfl, hq⟩; have HQ1 := Lib.hid hq; clear hq tk))
    have g3 := Lib.hid (B3.out.below (HQ1.out.below (w.heap.size + 1 + 1 + 1)) (by omega))
    go_wp2_with (refine st_stage 36 rfl ?_; refine wpList_store_mid rfl 36 _ _ rfl _ 0 (BrnA zB) rfl rfl (by rw [BrnA_size]; with_reducible exact g3.out.there) (by rw [BrnA_size]; exact infoBrine) (BrnA_one _) ?_)
    exact bodyPost_ret (ret_BN rfl rfl rfl g3.out.store.range) rfl ⟨R.out _ rfl, below_setCells _ (by omega) _ _ _ (HB.out.trans (HQ1.out.below _))⟩
  cases hvB : brnB B
  · have HvA := Lib.hid hvA
    have HvB := Lib.hid hvB
    have R := Lib.hid (show ∀ e, e = Ending.returned (BN zB 1) → MixV A B q e from fun e h => by unfold MixV; rw [hvA, hvB, Bool.true_and, if_neg (by decide)]; exact h)
    clear hvA hvB hs
    go_upto_region 2 with (first | (have _t := tk; go_at_call 41; have hc := (l05Ok_any A (w.heap.size) W B1.out.at' HA.out); rw [HvA.out] at hc; refine hc.mono ?_; clear hc; rintro e w1 ⟨rfl, hq⟩; have HQ1 := Lib.hid hq; clear hq tk) | (go_at_call 41; have hc := (l05Ok_any B (w.heap.size + 1) w1 (B2.out.below (HQ1.out.below (w.heap.size + 1 + 1)) (by omega)).at' HG.out); rw [HvB.out] at hc; refine hc.mono ?_; clear hc; rintro e w2 ⟨rfl, hq⟩; have HQ2 := Lib.hid (HQ1.out.trans hq); clear hq))
    have g3 := Lib.hid (B3.out.below (HQ2.out.below (w.heap.size + 1 + 1 + 1)) (by omega))
    go_wp2_with (refine st_stage 36 rfl ?_; refine wpList_store_mid rfl 36 _ _ rfl _ 0 (BrnA zB) rfl rfl (by rw [BrnA_size]; with_reducible exact g3.out.there) (by rw [BrnA_size]; exact infoBrine) (BrnA_one _) ?_)
    exact bodyPost_ret (ret_BN rfl rfl rfl g3.out.store.range) rfl ⟨R.out _ rfl, below_setCells _ (by omega) _ _ _ (HB.out.trans (HQ2.out.below _))⟩
  have HvA := Lib.hid hvA
  have HvB := Lib.hid hvB
  have R0 := Lib.hid (show ∀ e, (if shareB q = true then (if sameDim A B = true then ∃ f, MixTo A B q 64 f ∧ e = .returned (madeB { A with s := f }) else e = .returned (BN zB 4)) else e = .returned (BN zB 2)) → MixV A B q e from fun e h => by unfold MixV; rw [hvA, hvB, Bool.true_and, if_pos rfl]; exact h)
  clear hvA hvB hs
  go_upto_region 3 with (first | (have _t := tk; go_at_call 41; have hc := (l05Ok_any A (w.heap.size) W B1.out.at' HA.out); rw [HvA.out] at hc; refine hc.mono ?_; clear hc; rintro e w1 ⟨rfl, hq⟩; have HQ1 := Lib.hid hq; clear hq tk) | (go_at_call 41; have hc := (l05Ok_any B (w.heap.size + 1) w1 (B2.out.below (HQ1.out.below (w.heap.size + 1 + 1)) (by omega)).at' HG.out); rw [HvB.out] at hc; refine hc.mono ?_; clear hc; rintro e w2 ⟨rfl, hq⟩; have HQ2 := Lib.hid (HQ1.out.trans hq); clear hq))
  have hs := HS.out
  cases h1 : (FloatKind.f32.format.order q 0 == some Ordering.gt || FloatKind.f32.format.order q 0 == some Ordering.eq)
  · have R := Lib.hid (R0.out (.returned (BN zB 2)) (by unfold shareB; rw [h1, Bool.false_and, if_neg (by decide)]))
    clear hs
    go_upto_region 4 with (first | fail)
    have g3 := Lib.hid (B3.out.below (HQ2.out.below (w.heap.size + 1 + 1 + 1)) (by omega))
    go_wp2_with (refine st_stage 36 rfl ?_; refine wpList_store_mid rfl 36 _ _ rfl _ 0 (BrnA zB) rfl rfl (by rw [BrnA_size]; with_reducible exact g3.out.there) (by rw [BrnA_size]; exact infoBrine) (BrnA_one _) ?_)
    exact bodyPost_ret (ret_BN rfl rfl rfl g3.out.store.range) rfl ⟨R.out, below_setCells _ (by omega) _ _ _ (HB.out.trans (HQ2.out.below _))⟩
  cases h2 : (FloatKind.f32.format.order q 1065353216 == some Ordering.lt || FloatKind.f32.format.order q 1065353216 == some Ordering.eq)
  · have R := Lib.hid (R0.out (.returned (BN zB 2)) (by unfold shareB; rw [h1, h2, Bool.true_and, if_neg (by decide)]))
    clear hs
    go_upto_region 4 with (first | fail)
    have g3 := Lib.hid (B3.out.below (HQ2.out.below (w.heap.size + 1 + 1 + 1)) (by omega))
    go_wp2_with (refine st_stage 36 rfl ?_; refine wpList_store_mid rfl 36 _ _ rfl _ 0 (BrnA zB) rfl rfl (by rw [BrnA_size]; with_reducible exact g3.out.there) (by rw [BrnA_size]; exact infoBrine) (BrnA_one _) ?_)
    exact bodyPost_ret (ret_BN rfl rfl rfl g3.out.store.range) rfl ⟨R.out, below_setCells _ (by omega) _ _ _ (HB.out.trans (HQ2.out.below _))⟩
  have R1 := Lib.hid (fun e h => R0.out e (show (if shareB q = true then _ else _) from by unfold shareB; rw [h1, h2, Bool.true_and, if_pos rfl]; exact h))
  have P1 := Lib.hid (B1.out.below (HQ2.out.below (w.heap.size + 1)) (by omega))
  have P2 := Lib.hid (B2.out.below (HQ2.out.below (w.heap.size + 1 + 1)) (by omega))
  have P3 := Lib.hid (B3.out.below (HQ2.out.below (w.heap.size + 1 + 1 + 1)) (by omega))
  have PB := Lib.hid (HB.out.trans (HQ2.out.below _))
  have c1 := P1.out.at'.g.wide
  have c2 := P2.out.at'.g.wide
  have c3 := P1.out.at'.g.high
  have c4 := P2.out.at'.g.high
  have g3 := P3
  rw [Nat.zero_add] at c3 c4
  clear hs
  by_cases hw : A.G.wide = B.G.wide
  case neg =>
    have R := Lib.hid (R1.out (.returned (BN zB 4)) (by
      have : sameDim A B = false := by (unfold sameDim; rw [beq_eq_false_iff_ne.2 hw, Bool.false_and])
      rw [this, if_neg (by decide)]))
    have e1 : (A.G.wide == B.G.wide) = false := beq_eq_false_iff_ne.2 hw
    have e2 : (A.G.wide != B.G.wide) = true := by (unfold bne; rw [e1]; rfl)
    clear hw
    go_wp2_with (refine st_stage 36 rfl ?_; refine wpList_store_mid rfl 36 _ _ rfl _ 0 (BrnA zB) rfl rfl (by rw [BrnA_size]; with_reducible exact g3.out.there) (by rw [BrnA_size]; exact infoBrine) (BrnA_one _) ?_)
    exact bodyPost_ret (ret_BN rfl rfl rfl g3.out.store.range) rfl ⟨R.out, below_setCells _ (by omega) _ _ _ PB.out⟩
  by_cases hh : A.G.high = B.G.high
  case neg =>
    have R := Lib.hid (R1.out (.returned (BN zB 4)) (by
      have : sameDim A B = false := by (unfold sameDim; rw [beq_eq_false_iff_ne.2 hh, Bool.and_false])
      rw [this, if_neg (by decide)]))
    have e1 : (A.G.wide == B.G.wide) = true := by simpa using hw
    have e2 : (A.G.wide != B.G.wide) = false := by (unfold bne; rw [e1]; rfl)
    have e3 : (A.G.high == B.G.high) = false := beq_eq_false_iff_ne.2 hh
    have e4 : (A.G.high != B.G.high) = true := by (unfold bne; rw [e3]; rfl)
    clear hw hh
    go_wp2_with (refine st_stage 36 rfl ?_; refine wpList_store_mid rfl 36 _ _ rfl _ 0 (BrnA zB) rfl rfl (by rw [BrnA_size]; with_reducible exact g3.out.there) (by rw [BrnA_size]; exact infoBrine) (BrnA_one _) ?_)
    exact bodyPost_ret (ret_BN rfl rfl rfl g3.out.store.range) rfl ⟨R.out, below_setCells _ (by omega) _ _ _ PB.out⟩
  have R := Lib.hid (fun e h => R1.out e (by
      have : sameDim A B = true := by (unfold sameDim; simp [hw, hh])
      rw [this, if_pos rfl]
      exact h))
  have e1 : (A.G.wide == B.G.wide) = true := by simpa using hw
  have e2 : (A.G.wide != B.G.wide) = false := by (unfold bne; rw [e1]; rfl)
  have e3 : (A.G.high == B.G.high) = true := by simpa using hh
  have e4 : (A.G.high != B.G.high) = false := by (unfold bne; rw [e3]; rfl)
  clear hw hh
  go_upto_region 8 with (fail)
  clear c1 c2 c3 c4 e1 e2 e3 e4 g3 h1 h2
  go_loopw [8] (fun i wr => ∃ (k : Nat) (f : Nat → Nat), k ≤ 64 ∧ i = .int .i64 k ∧ Hid (BrnBox wr w.heap.size { A with s := f }) ∧ Hid (BrnBox wr (w.heap.size + 1) B) ∧ Hid (BrnBox wr (w.heap.size + 1 + 1) zB) ∧ Hid (Below w.heap.size w wr) ∧ Hid (MixTo A B q k f)) (fun i _ => 64 - (intOf i).toNat)
  case atStart => exact ⟨0, A.s, by omega, rfl, P1, P2, P3, PB, Lib.hid (mixTo_zero _ _ _)⟩
  case round =>
    clear P1 P2 P3 PB
    obtain ⟨k, f, hk, rfl, Q1, Q2, Q3, QB, Q4⟩ := hrel
    by_cases hlt : k < 64
    · have hk2 : (k : Int) < 64 := by omega
      cases hi : isB A.G k
      · have Hi := Lib.hid hi
        have E := Lib.hid (mixTo_no Q4.out hi)
        clear hi
        go_wp2_with (go_at_call 48; refine (l01Is_is A.G k hlt false Hi.out _ _ Q1.out.at'.g HA.out.g).mono ?_; rintro e w' ⟨rfl, rfl⟩)
        go_roundw
        case rel => exact ⟨k + 1, f, by omega, by go_num, Q1, Q2, Q3, QB, E⟩
        case measure => simp [intOf]; omega
      · have Hi := Lib.hid hi
        clear hi
        have ca : wr.cell? ⟨w.heap.size, 195 + k, none⟩ = some (.float .f32 (f k)) := Grd_fld Q1.out.s k hlt
        have cb : wr.cell? ⟨w.heap.size + 1, 195 + k, none⟩ = some (.float .f32 (B.s k)) := Grd_fld Q2.out.s k hlt
        go_upto_region 11 with (go_at_call 48; refine (l01Is_is A.G k hlt true Hi.out _ _ Q1.out.at'.g HA.out.g).mono ?_; rintro e w' ⟨rfl, rfl⟩)
        refine wp_region_calm (ops' := regOf Tryd.f19 11) [0, 1, 2, 3, 4, 5, 6, 7, 8, 9, 10, 11, 12, 13, 14, 15, 16, 17, 18] [19] (.run 19 .fin) (Quiet w') [(0, One (.int .i64 (k : Int))), (1, One (.int .i64 (k : Int))), (2, One (.pointer (some ⟨w.heap.size, 195, none⟩))), (3, One (.pointer (some ⟨w.heap.size, 195 + k, none⟩))), (4, One (.float .f32 (f k))), (5, One (.float .f32 q)), (6, One (.int .i64 (k : Int))), (7, One (.pointer (some ⟨(w.heap.size + 1), 195, none⟩))), (8, One (.pointer (some ⟨(w.heap.size + 1), 195 + k, none⟩))), (9, One (.float .f32 (B.s k))), (10, One (.int .i64 (k : Int))), (11, One (.pointer (some ⟨w.heap.size, 195, none⟩))), (12, One (.pointer (some ⟨w.heap.size, 195 + k, none⟩))), (13, One (.float .f32 (f k))), (14, Numv .f32 (fop .f32 .sub (num .f32 (B.s k)) (num .f32 (f k)))), (15, Numv .f32 (fop .f32 .mul (num .f32 q) (fop .f32 .sub (num .f32 (B.s k)) (num .f32 (f k))))), (16, Numv .f32 (fop .f32 .add (num .f32 (f k)) (fop .f32 .mul (num .f32 q) (fop .f32 .sub (num .f32 (B.s k)) (num .f32 (f k)))))), (17, One (.pointer (some ⟨w.heap.size, 195, none⟩))), (18, One (.pointer (some ⟨w.heap.size, 195 + k, none⟩)))] (by kernel_rfl) (by kernel_rfl) (by kernel_rfl) (by kernel_rfl) (by kernel_rfl) (by kernel_rfl) (by kernel_rfl) (by kernel_rfl) rfl ((Quiet.refl _).drewN 1) ?_
        refine calm_pure (some 49) (by kernel_rfl) (by kernel_rfl) (by kernel_rfl) (fun _ => by kernel_rfl) ?_
        refine calm_pure (some 50) (by kernel_rfl) (by kernel_rfl) (by kernel_rfl) (fun _ => by kernel_rfl) ?_
        refine calm_pure (some 51) (by kernel_rfl) (by kernel_rfl) (by kernel_rfl) (fun _ => by kernel_rfl) ?_
        refine calm_pure (some 52) (by kernel_rfl) (by kernel_rfl) (by kernel_rfl) (index_fld (x := .tmp 51) (y := .tmp 50) (o := 195) (by kernel_rfl) (by kernel_rfl) (by kernel_rfl) hlt) ?_
        refine calm_read (some 53) (by kernel_rfl) (by kernel_rfl) (by kernel_rfl) (fun w' hw' => load_cell (ty := 23) (x := .tmp 52) (b := w.heap.size) (o := 195 + k) (by kernel_rfl) (by kernel_rfl) Tryd.underlying23 rfl (kq ca w' hw')) ?_
        refine calm_pure (some 54) (by kernel_rfl) (by kernel_rfl) (by kernel_rfl) (fun _ => by kernel_rfl) ?_
        refine calm_pure (some 55) (by kernel_rfl) (by kernel_rfl) (by kernel_rfl) (fun _ => by kernel_rfl) ?_
        refine calm_pure (some 56) (by kernel_rfl) (by kernel_rfl) (by kernel_rfl) (fun _ => by kernel_rfl) ?_
        refine calm_pure (some 57) (by kernel_rfl) (by kernel_rfl) (by kernel_rfl) (index_fld (x := .tmp 56) (y := .tmp 55) (o := 195) (by kernel_rfl) (by kernel_rfl) (by kernel_rfl) hlt) ?_
        refine calm_read (some 58) (by kernel_rfl) (by kernel_rfl) (by kernel_rfl) (fun w' hw' => load_cell (ty := 23) (x := .tmp 57) (b := (w.heap.size + 1)) (o := 195 + k) (by kernel_rfl) (by kernel_rfl) Tryd.underlying23 rfl (kq cb w' hw')) ?_
        refine calm_pure (some 59) (by kernel_rfl) (by kernel_rfl) (by kernel_rfl) (fun _ => by kernel_rfl) ?_
        refine calm_pure (some 60) (by kernel_rfl) (by kernel_rfl) (by kernel_rfl) (fun _ => by kernel_rfl) ?_
        refine calm_pure (some 61) (by kernel_rfl) (by kernel_rfl) (by kernel_rfl) (index_fld (x := .tmp 60) (y := .tmp 59) (o := 195) (by kernel_rfl) (by kernel_rfl) (by kernel_rfl) hlt) ?_
        refine calm_read (some 62) (by kernel_rfl) (by kernel_rfl) (by kernel_rfl) (fun w' hw' => load_cell (ty := 23) (x := .tmp 61) (b := w.heap.size) (o := 195 + k) (by kernel_rfl) (by kernel_rfl) Tryd.underlying23 rfl (kq ca w' hw')) ?_
        refine calm_float (some 63) .f32 .sub 23 23 (.tmp 58) (.tmp 62) ((B.s k)) ((f k)) (by kernel_rfl) (by kernel_rfl) (by kernel_rfl) (by kernel_rfl) rfl (by kernel_rfl) (by kernel_rfl) (fun _ n h => h.drewN n) (rfl) ?_
        intro r63 hr63
        refine calm_float (some 64) .f32 .mul 23 23 (.tmp 54) (.tmp 63) (q) (r63) (by kernel_rfl) (by kernel_rfl) (by kernel_rfl) (by kernel_rfl) rfl (by kernel_rfl) (by kernel_rfl) (fun _ n h => h.drewN n) (fop_eq (rfl) hr63) ?_
        intro r64 hr64
        refine calm_float (some 65) .f32 .add 23 23 (.tmp 53) (.tmp 64) ((f k)) (r64) (by kernel_rfl) (by kernel_rfl) (by kernel_rfl) (by kernel_rfl) rfl (by kernel_rfl) (by kernel_rfl) (fun _ n h => h.drewN n) (fop_eq (rfl) hr64) ?_
        intro r65 hr65
        refine calm_pure (some 66) (by kernel_rfl) (by kernel_rfl) (by kernel_rfl) (fun _ => by kernel_rfl) ?_
        refine calm_pure (some 67) (by kernel_rfl) (by kernel_rfl) (by kernel_rfl) (index_fld (x := .tmp 66) (y := .tmp 49) (o := 195) (by kernel_rfl) (by kernel_rfl) (by kernel_rfl) hlt) ?_
        refine calm_end fun w1 hw1 => ?_
        have q1 := Q1.out.below (hw1.below (w.heap.size + 1)) (by omega)
        obtain ⟨u, hu⟩ := Option.isSome_iff_exists.1 (q1.at_some (195 + k) (by omega))
        refine plan_do none undef (w1.setCell ⟨w.heap.size, 195 + k, none⟩ (.float .f32 r65)) (by kernel_rfl) (by kernel_rfl) (by kernel_rfl) (.inr ⟨store_f32 (x := .tmp 67) (y := .tmp 65) (by kernel_rfl) (by kernel_rfl) (by kernel_rfl) infoF32 hu (q1.free (195 + k) (by omega)), rfl⟩) trivial (plan_end (Clean.normal ?_))
        have HR := Lib.hid (mixTo_yes Q4.out hlt Hi.out hr65)
        have Z1 := Lib.hid (q1.putS (x := r65) hlt)
        have Z2 := Lib.hid ((Q2.out.below (hw1.below (w.heap.size + 1 + 1)) (by omega)).far (b' := w.heap.size) (k := 195 + k) (v := .float .f32 r65) (by omega))
        have Z3 := Lib.hid ((Q3.out.below (hw1.below (w.heap.size + 1 + 1 + 1)) (by omega)).far (b' := w.heap.size) (k := 195 + k) (v := .float .f32 r65) (by omega))
        have ZB := Lib.hid ((QB.out.trans (hw1.below _)).setCell (p := ⟨w.heap.size, 195 + k, none⟩) (by simp) (.float .f32 r65))
        clear ca cb q1 hu hr65 hr64 hr63 hw1
        simp only [Act.put, List.setIfInBounds_toArray, List.set_cons_zero, List.set_cons_succ]
        go_wp2
        go_roundw
        case rel => exact ⟨k + 1, upd f k r65, by omega, by go_num, Z1, Z2, Z3, ZB, HR⟩
        case measure => simp [intOf]; omega
    · obtain rfl : k = 64 := by omega
      have OKf := Lib.hid (show BrnOk { A with s := f } from ⟨HA.out.g, trivial, trivial, trivial⟩)
      have Rc := Lib.hid Q1.out.range
      cases hv : brnB { A with s := f }
      · have Hv2 := Lib.hid hv
        have R2 := Lib.hid (R.out (.returned (BN zB 4)) ⟨f, Q4.out, by unfold madeB; rw [hv]; rfl⟩)
        clear hv
        go_upto_region 13 with (go_at_call 41; have hc := (l05Ok_any { A with s := f } (w.heap.size) wr Q1.out.at' OKf.out); rw [Hv2.out] at hc; refine hc.mono ?_; clear hc; rintro e w3 ⟨rfl, hq⟩; have HQ3 := Lib.hid hq; clear hq)
        have g2 := Lib.hid (Q3.out.below (HQ3.out.below (w.heap.size + 1 + 1 + 1)) (by omega))
        go_wp2_with (refine st_stage 36 rfl ?_; refine wpList_store_mid rfl 36 _ _ rfl _ 0 (BrnA zB) rfl rfl (by rw [BrnA_size]; with_reducible exact g2.out.there) (by rw [BrnA_size]; exact infoBrine) (BrnA_one _) ?_)
        exact bodyPost_ret (ret_BN rfl rfl rfl g2.out.store.range) rfl ⟨R2.out, below_setCells _ (by omega) _ _ _ (QB.out.trans (HQ3.out.below _))⟩
      · have Hv2 := Lib.hid hv
        have R2 := Lib.hid (R.out (.returned (BN { A with s := f } 0)) ⟨f, Q4.out, by unfold madeB; rw [hv]; rfl⟩)
        clear hv
        go_upto_region 14 with (go_at_call 41; have hc := (l05Ok_any { A with s := f } (w.heap.size) wr Q1.out.at' OKf.out); rw [Hv2.out] at hc; refine hc.mono ?_; clear hc; rintro e w3 ⟨rfl, hq⟩; have HQ3 := Lib.hid hq; clear hq)
        have g2 := Lib.hid (Q3.out.below (HQ3.out.below (w.heap.size + 1 + 1 + 1)) (by omega))
        have rr := HQ3.out.range Rc.out
        go_wp2_with (first | (refine ld_stage 36 rfl ?_; refine wpList_load_mid rfl 36 _ rfl (w.heap.size) 0 rfl (BrnL { A with s := f }) _ rr Tryd.underlying36 rfl (by rw [BrnL_length]; exact infoBrine) ?_) | (refine st_stage 36 rfl ?_; refine wpList_store_mid rfl 36 _ _ rfl _ 0 (BrnA { A with s := f }) rfl rfl (by rw [BrnA_size]; with_reducible exact g2.out.there) (by rw [BrnA_size]; exact infoBrine) (BrnA_one _) ?_))
        exact bodyPost_ret (ret_BN rfl rfl rfl g2.out.store.range) rfl ⟨R2.out, below_setCells _ (by omega) _ _ _ (QB.out.trans (HQ3.out.below _))⟩
end Go.Proofs.YtnochmlhimddpaaDoor
