/- MixBrines: the program's. Condition: the table of math/bits is laid. -/
import Derived.Test.YtnochmlhimddpaaDoorBrMx
namespace Go.Proofs.YtnochmlhimddpaaDoor
open Go.RowKit Go.Shelf
attribute [local go_sem] Oper.semAt_some run_store_float
set_option linter.unusedSimpArgs false
set_option linter.unusedVariables false

theorem mx_four (A B C : Brn) (D : Array Value) (t u v x : TypeId) (w : World) : ∃ W, (((w.alloc (.cells (BrnA A) t)).alloc (.cells (BrnA B) u)).alloc (.cells D v)).alloc (.cells (BrnA C) x) = W ∧ W.heap.size = w.heap.size + 4 ∧ BrnBox W w.heap.size A ∧ BrnBox W (w.heap.size + 1) B ∧ W.rangeAt (w.heap.size + 1 + 1) 0 D.toList ∧ BrnBox W (w.heap.size + 1 + 1 + 1) C ∧ Below w.heap.size w W := by
  obtain ⟨V, hV, z1, g1, g2, b1⟩ := bbox2 A B t u w
  obtain ⟨U, hU, z2, r2, th2, b2⟩ := one_boxT D v V
  obtain ⟨W, hW, z3, g3, b3⟩ := bbox1 C x U
  rw [hV, hU, hW]
  rw [z1] at r2
  rw [z2, z1] at g3
  have b23 := b2.trans (b3.mono b2.size)
  exact ⟨W, rfl, by omega, g1.below b23 (by omega), g2.below b23 (by omega), range_below r2 b3 (by omega), g3, b1.trans (b23.mono (by omega))⟩
theorem mix_next {A B : Brn} {q i r : Nat} {l : List Nat} {f : Nat → Nat} (h : l.Nodup → ∀ j, j < 64 → num .f32 (f j) = if j ∈ l then mixO A B q j else num .f32 (A.s j)) (hi : i < 64) (hr : num .f32 r = fop .f32 .add (num .f32 (f i)) (fop .f32 .mul (num .f32 q) (fop .f32 .sub (num .f32 (B.s i)) (num .f32 (f i))))) (hn : (l ++ [i]).Nodup) :
    ∀ j, j < 64 → num .f32 (upd f i r j) = if j ∈ l ++ [i] then mixO A B q j else num .f32 (A.s j) := by
  rw [List.nodup_append] at hn
  obtain ⟨h1, _, h3⟩ := hn
  have hni : ¬ i ∈ l := fun hm => (h3 i hm i (by simp)) rfl
  intro j hj
  unfold upd
  by_cases e : j = i
  · subst e
    have h0 := h h1 j hj
    rw [if_neg hni] at h0
    rw [if_pos rfl, if_pos (by simp), hr, h0]
    rfl
  · rw [if_neg e, h h1 j hj]
    simp [e]

set_option maxRecDepth 100000 in
set_option maxHeartbeats 4000000 in
theorem implMix_any (A B : Brn) (q : Nat) (w : World) (hA : BrnOk A) (hG : BrnOk B) (hT : TabAt w) :
    Calls Tryd.prog 20 #[.agg (BrnA A), .agg (BrnA B), .float .f32 q] w fun e w' => MixV A B q e ∧ Below w.heap.size w w' := by
  have m64 := cellsN_lt A.G
  have hz := (zero_of_info zeroBrine).1
  cases hvA : brnB A
  · have HvA := Lib.hid hvA
    have R := Lib.hid (show ∀ e, e = Ending.returned (BN zB 1) → MixV A B q e from fun e h => by unfold MixV; rw [hvA, Bool.false_and, if_neg (by decide)]; exact h)
    clear hvA
    go_enter Tryd.func20, Tryd.ntmps20
    go_upto_region 1 with (fail)
    obtain ⟨W, hW, hs, b1, b2, x2, b3, hB⟩ := mx_four A B zB #[.float .f32 q] 36 36 23 36 w
    rw [hW]
    clear hW
    have r1 := b1.range
    have cq := x2 0 _ rfl
    rw [Nat.zero_add] at cq
    have B1 := Lib.hid b1
    have B2 := Lib.hid b2
    have B3 := Lib.hid b3
    have HB := Lib.hid hB
    have HA := Lib.hid hA
    have HG := Lib.hid hG
    have TW := Lib.hid (hT.below hB (tab_lt hT))
    have HS := Lib.hid hs
    have hgl := tab_lt hT
    have tk : True := trivial
    clear b1 b2 b3 hB hA hG hT hs x2
    go_upto_region 2 with (first | (have _t := tk; refine ld_stage 36 rfl ?_; refine wpList_load_mid rfl 36 _ rfl (w.heap.size) 0 rfl (BrnL A) _ r1 Tryd.underlying36 rfl (by rw [BrnL_length]; exact infoBrine) ?_) | (have _t := tk; go_at_call 44; have hc := (implValidB_any A W HA.out TW.out); rw [HvA.out] at hc; refine hc.mono ?_; clear hc; rintro e V1 ⟨rfl, hb1⟩; have Hb1 := Lib.hid hb1; have r2 := (B2.out.below hb1 (by have := HS.out; omega)).range; clear hb1 tk r1))
    have g3 := Lib.hid (B3.out.below Hb1.out (by have := HS.out; omega))
    go_wp2_with (refine st_stage 36 rfl ?_; refine wpList_store_mid rfl 36 _ _ rfl _ 0 (BrnA zB) rfl rfl (by rw [BrnA_size]; with_reducible exact g3.out.there) (by rw [BrnA_size]; exact infoBrine) (BrnA_one _) ?_)
    exact bodyPost_ret (ret_BN rfl rfl rfl g3.out.store.range) rfl ⟨R.out _ rfl, below_setCells _ (by omega) _ _ _ (HB.out.trans (Hb1.out.mono (by have := HS.out; omega)))⟩
  cases hvB : brnB B
  · have HvA := Lib.hid hvA
    have HvB := Lib.hid hvB
    have R := Lib.hid (show ∀ e, e = Ending.returned (BN zB 1) → MixV A B q e from fun e h => by unfold MixV; rw [hvA, hvB, Bool.true_and, if_neg (by decide)]; exact h)
    clear hvA hvB
    go_enter Tryd.func20, Tryd.ntmps20
    go_upto_region 1 with (fail)
    obtain ⟨W, hW, hs, b1, b2, x2, b3, hB⟩ := mx_four A B zB #[.float .f32 q] 36 36 23 36 w
    rw [hW]
    clear hW
    have r1 := b1.range
    have cq := x2 0 _ rfl
    rw [Nat.zero_add] at cq
    have B1 := Lib.hid b1
    have B2 := Lib.hid b2
    have B3 := Lib.hid b3
    have HB := Lib.hid hB
    have HA := Lib.hid hA
    have HG := Lib.hid hG
    have TW := Lib.hid (hT.below hB (tab_lt hT))
    have HS := Lib.hid hs
    have hgl := tab_lt hT
    have tk : True := trivial
    clear b1 b2 b3 hB hA hG hT hs x2
    go_upto_region 2 with (first | (have _t := tk; refine ld_stage 36 rfl ?_; refine wpList_load_mid rfl 36 _ rfl (w.heap.size) 0 rfl (BrnL A) _ r1 Tryd.underlying36 rfl (by rw [BrnL_length]; exact infoBrine) ?_) | (have _t := tk; go_at_call 44; have hc := (implValidB_any A W HA.out TW.out); rw [HvA.out] at hc; refine hc.mono ?_; clear hc; rintro e V1 ⟨rfl, hb1⟩; have Hb1 := Lib.hid hb1; have r2 := (B2.out.below hb1 (by have := HS.out; omega)).range; clear hb1 tk r1) | (refine wpList_load_g (by kernel_rfl) 36 _ rfl (w.heap.size + 1) 0 rfl (BrnL B) _ r2 Tryd.underlying36 rfl (by rw [BrnL_length]; exact infoBrine) ?_) | (go_at_call 44; have hc := (implValidB_any B V1 HG.out (TW.out.below Hb1.out (tab_lt TW.out))); rw [HvB.out] at hc; refine hc.mono ?_; clear hc; rintro e V2 ⟨rfl, hb2⟩; have Hb2 := Lib.hid (Hb1.out.trans (hb2.mono Hb1.out.size)); clear hb2 r2))
    have g3 := Lib.hid (B3.out.below Hb2.out (by have := HS.out; omega))
    go_wp2_with (refine st_stage 36 rfl ?_; refine wpList_store_mid rfl 36 _ _ rfl _ 0 (BrnA zB) rfl rfl (by rw [BrnA_size]; with_reducible exact g3.out.there) (by rw [BrnA_size]; exact infoBrine) (BrnA_one _) ?_)
    exact bodyPost_ret (ret_BN rfl rfl rfl g3.out.store.range) rfl ⟨R.out _ rfl, below_setCells _ (by omega) _ _ _ (HB.out.trans (Hb2.out.mono (by have := HS.out; omega)))⟩
  have HvA := Lib.hid hvA
  have HvB := Lib.hid hvB
  have wd := valid_ext (brn_valid hvA)
  have R0 := Lib.hid (show ∀ e, (if shareB q = true then (if sameDim A B = true then ∃ f, MixTo A B q 64 f ∧ e = .returned (madeB { A with s := f }) else e = .returned (BN zB 4)) else e = .returned (BN zB 2)) → MixV A B q e from fun e h => by unfold MixV; rw [hvA, hvB, Bool.true_and, if_pos rfl]; exact h)
  clear hvA hvB
  cases hs0 : shareB q
  · have Hs := Lib.hid hs0
    have R := Lib.hid (R0.out (.returned (BN zB 2)) (by rw [hs0, if_neg (by decide)]))
    clear hs0 wd
    go_enter Tryd.func20, Tryd.ntmps20
    go_upto_region 1 with (fail)
    obtain ⟨W, hW, hs, b1, b2, x2, b3, hB⟩ := mx_four A B zB #[.float .f32 q] 36 36 23 36 w
    rw [hW]
    clear hW
    have r1 := b1.range
    have cq := x2 0 _ rfl
    rw [Nat.zero_add] at cq
    have B1 := Lib.hid b1
    have B2 := Lib.hid b2
    have B3 := Lib.hid b3
    have HB := Lib.hid hB
    have HA := Lib.hid hA
    have HG := Lib.hid hG
    have TW := Lib.hid (hT.below hB (tab_lt hT))
    have HS := Lib.hid hs
    have hgl := tab_lt hT
    have tk : True := trivial
    clear b1 b2 b3 hB hA hG hT hs x2
    go_upto_region 3 with (first | (have _t := tk; refine ld_stage 36 rfl ?_; refine wpList_load_mid rfl 36 _ rfl (w.heap.size) 0 rfl (BrnL A) _ r1 Tryd.underlying36 rfl (by rw [BrnL_length]; exact infoBrine) ?_) | (have _t := tk; go_at_call 44; have hc := (implValidB_any A W HA.out TW.out); rw [HvA.out] at hc; refine hc.mono ?_; clear hc; rintro e V1 ⟨rfl, hb1⟩; have Hb1 := Lib.hid hb1; have r2 := (B2.out.below hb1 (by have := HS.out; omega)).range; clear hb1 tk r1) | (refine wpList_load_g (by kernel_rfl) 36 _ rfl (w.heap.size + 1) 0 rfl (BrnL B) _ r2 Tryd.underlying36 rfl (by rw [BrnL_length]; exact infoBrine) ?_) | (go_at_call 44; have hc := (implValidB_any B V1 HG.out (TW.out.below Hb1.out (tab_lt TW.out))); rw [HvB.out] at hc; refine hc.mono ?_; clear hc; rintro e V2 ⟨rfl, hb2⟩; have Hb2 := Lib.hid (Hb1.out.trans (hb2.mono Hb1.out.size)); clear hb2 r2))
    have cq := kc cq (by have := HS.out; omega) _ Hb2.out
    have g3 := Lib.hid (B3.out.below Hb2.out (by have := HS.out; omega))
    go_wp2_with (first | (go_at_call 56; have hc := isShare_any q V2; rw [Hs.out] at hc; refine hc.mono ?_; clear hc; rintro e w' ⟨rfl, hww⟩; rw [← hww]; clear hww w') | (refine st_stage 36 rfl ?_; refine wpList_store_mid rfl 36 _ _ rfl _ 0 (BrnA zB) rfl rfl (by rw [BrnA_size]; with_reducible exact g3.out.there) (by rw [BrnA_size]; exact infoBrine) (BrnA_one _) ?_))
    exact bodyPost_ret (ret_BN rfl rfl rfl g3.out.store.range) rfl ⟨R.out, below_setCells _ (by omega) _ _ _ (HB.out.trans (Hb2.out.mono (by have := HS.out; omega)))⟩
  have Hs := Lib.hid hs0
  have R1 := Lib.hid (fun e h => R0.out e (show (if shareB q = true then _ else _) from by rw [hs0, if_pos rfl]; exact h))
  clear hs0
  by_cases hw : A.G.wide = B.G.wide
  case neg =>
    have R := Lib.hid (R1.out (.returned (BN zB 4)) (by
      have : sameDim A B = false := by (unfold sameDim; rw [beq_eq_false_iff_ne.2 hw, Bool.false_and])
      rw [this, if_neg (by decide)]))
    have e1 : (A.G.wide == B.G.wide) = false := beq_eq_false_iff_ne.2 hw
    have e2 : (A.G.wide != B.G.wide) = true := by (unfold bne; rw [e1]; rfl)
    clear hw wd
    go_enter Tryd.func20, Tryd.ntmps20
    go_upto_region 1 with (fail)
    obtain ⟨W, hW, hs, b1, b2, x2, b3, hB⟩ := mx_four A B zB #[.float .f32 q] 36 36 23 36 w
    rw [hW]
    clear hW
    have r1 := b1.range
    have cq := x2 0 _ rfl
    rw [Nat.zero_add] at cq
    have B1 := Lib.hid b1
    have B2 := Lib.hid b2
    have B3 := Lib.hid b3
    have HB := Lib.hid hB
    have HA := Lib.hid hA
    have HG := Lib.hid hG
    have TW := Lib.hid (hT.below hB (tab_lt hT))
    have HS := Lib.hid hs
    have hgl := tab_lt hT
    have tk : True := trivial
    clear b1 b2 b3 hB hA hG hT hs x2
    go_upto_region 3 with (first | (have _t := tk; refine ld_stage 36 rfl ?_; refine wpList_load_mid rfl 36 _ rfl (w.heap.size) 0 rfl (BrnL A) _ r1 Tryd.underlying36 rfl (by rw [BrnL_length]; exact infoBrine) ?_) | (have _t := tk; go_at_call 44; have hc := (implValidB_any A W HA.out TW.out); rw [HvA.out] at hc; refine hc.mono ?_; clear hc; rintro e V1 ⟨rfl, hb1⟩; have Hb1 := Lib.hid hb1; have r2 := (B2.out.below hb1 (by have := HS.out; omega)).range; clear hb1 tk r1) | (refine wpList_load_g (by kernel_rfl) 36 _ rfl (w.heap.size + 1) 0 rfl (BrnL B) _ r2 Tryd.underlying36 rfl (by rw [BrnL_length]; exact infoBrine) ?_) | (go_at_call 44; have hc := (implValidB_any B V1 HG.out (TW.out.below Hb1.out (tab_lt TW.out))); rw [HvB.out] at hc; refine hc.mono ?_; clear hc; rintro e V2 ⟨rfl, hb2⟩; have Hb2 := Lib.hid (Hb1.out.trans (hb2.mono Hb1.out.size)); clear hb2 r2))
    have cq := kc cq (by have := HS.out; omega) _ Hb2.out
    have c1 := (B1.out.below Hb2.out (by have := HS.out; omega)).at'.g.wide
    have c2 := (B2.out.below Hb2.out (by have := HS.out; omega)).at'.g.wide
    have c3 := (B1.out.below Hb2.out (by have := HS.out; omega)).at'.g.high
    have c4 := (B2.out.below Hb2.out (by have := HS.out; omega)).at'.g.high
    rw [Nat.zero_add] at c3 c4
    have g3 := Lib.hid (B3.out.below Hb2.out (by have := HS.out; omega))
    go_wp2_with (first | (go_at_call 56; have hc := isShare_any q V2; rw [Hs.out] at hc; refine hc.mono ?_; clear hc; rintro e w' ⟨rfl, hww⟩; rw [← hww]; clear hww w') | (refine st_stage 36 rfl ?_; refine wpList_store_mid rfl 36 _ _ rfl _ 0 (BrnA zB) rfl rfl (by rw [BrnA_size]; with_reducible exact g3.out.there) (by rw [BrnA_size]; exact infoBrine) (BrnA_one _) ?_))
    exact bodyPost_ret (ret_BN rfl rfl rfl g3.out.store.range) rfl ⟨R.out, below_setCells _ (by omega) _ _ _ (HB.out.trans (Hb2.out.mono (by have := HS.out; omega)))⟩
  by_cases hh : A.G.high = B.G.high
  case neg =>
    have R := Lib.hid (R1.out (.returned (BN zB 4)) (by
      have : sameDim A B = false := by (unfold sameDim; rw [beq_eq_false_iff_ne.2 hh, Bool.and_false])
      rw [this, if_neg (by decide)]))
    have e1 : (A.G.wide == B.G.wide) = true := by simpa using hw
    have e2 : (A.G.wide != B.G.wide) = false := by (unfold bne; rw [e1]; rfl)
    have e3 : (A.G.high == B.G.high) = false := beq_eq_false_iff_ne.2 hh
    have e4 : (A.G.high != B.G.high) = true := by (unfold bne; rw [e3]; rfl)
    clear hw hh wd
    go_enter Tryd.func20, Tryd.ntmps20
    go_upto_region 1 with (fail)
    obtain ⟨W, hW, hs, b1, b2, x2, b3, hB⟩ := mx_four A B zB #[.float .f32 q] 36 36 23 36 w
    rw [hW]
    clear hW
    have r1 := b1.range
    have cq := x2 0 _ rfl
    rw [Nat.zero_add] at cq
    have B1 := Lib.hid b1
    have B2 := Lib.hid b2
    have B3 := Lib.hid b3
    have HB := Lib.hid hB
    have HA := Lib.hid hA
    have HG := Lib.hid hG
    have TW := Lib.hid (hT.below hB (tab_lt hT))
    have HS := Lib.hid hs
    have hgl := tab_lt hT
    have tk : True := trivial
    clear b1 b2 b3 hB hA hG hT hs x2
    go_upto_region 3 with (first | (have _t := tk; refine ld_stage 36 rfl ?_; refine wpList_load_mid rfl 36 _ rfl (w.heap.size) 0 rfl (BrnL A) _ r1 Tryd.underlying36 rfl (by rw [BrnL_length]; exact infoBrine) ?_) | (have _t := tk; go_at_call 44; have hc := (implValidB_any A W HA.out TW.out); rw [HvA.out] at hc; refine hc.mono ?_; clear hc; rintro e V1 ⟨rfl, hb1⟩; have Hb1 := Lib.hid hb1; have r2 := (B2.out.below hb1 (by have := HS.out; omega)).range; clear hb1 tk r1) | (refine wpList_load_g (by kernel_rfl) 36 _ rfl (w.heap.size + 1) 0 rfl (BrnL B) _ r2 Tryd.underlying36 rfl (by rw [BrnL_length]; exact infoBrine) ?_) | (go_at_call 44; have hc := (implValidB_any B V1 HG.out (TW.out.below Hb1.out (tab_lt TW.out))); rw [HvB.out] at hc; refine hc.mono ?_; clear hc; rintro e V2 ⟨rfl, hb2⟩; have Hb2 := Lib.hid (Hb1.out.trans (hb2.mono Hb1.out.size)); clear hb2 r2))
    have cq := kc cq (by have := HS.out; omega) _ Hb2.out
    have c1 := (B1.out.below Hb2.out (by have := HS.out; omega)).at'.g.wide
    have c2 := (B2.out.below Hb2.out (by have := HS.out; omega)).at'.g.wide
    have c3 := (B1.out.below Hb2.out (by have := HS.out; omega)).at'.g.high
    have c4 := (B2.out.below Hb2.out (by have := HS.out; omega)).at'.g.high
    rw [Nat.zero_add] at c3 c4
    have g3 := Lib.hid (B3.out.below Hb2.out (by have := HS.out; omega))
    go_wp2_with (first | (go_at_call 56; have hc := isShare_any q V2; rw [Hs.out] at hc; refine hc.mono ?_; clear hc; rintro e w' ⟨rfl, hww⟩; rw [← hww]; clear hww w') | (refine st_stage 36 rfl ?_; refine wpList_store_mid rfl 36 _ _ rfl _ 0 (BrnA zB) rfl rfl (by rw [BrnA_size]; with_reducible exact g3.out.there) (by rw [BrnA_size]; exact infoBrine) (BrnA_one _) ?_))
    exact bodyPost_ret (ret_BN rfl rfl rfl g3.out.store.range) rfl ⟨R.out, below_setCells _ (by omega) _ _ _ (HB.out.trans (Hb2.out.mono (by have := HS.out; omega)))⟩
  have R := Lib.hid (fun e h => R1.out e (by
      have : sameDim A B = true := by (unfold sameDim; simp [hw, hh])
      rw [this, if_pos rfl]
      exact h))
  have e1 : (A.G.wide == B.G.wide) = true := by simpa using hw
  have e2 : (A.G.wide != B.G.wide) = false := by (unfold bne; rw [e1]; rfl)
  have e3 : (A.G.high == B.G.high) = true := by simpa using hh
  have e4 : (A.G.high != B.G.high) = false := by (unfold bne; rw [e3]; rfl)
  clear hw hh
  refine (callsIn_wide (n := 6)).1 (callsIn_of_wp_marks Tryd.func20 rfl trivial ?_ rfl)
  simp only [Tryd.ntmps20, List.size_toArray, List.length_cons, List.length_nil, Nat.reduceAdd, Nat.reduceSub, Array.replicate_succ, Array.replicate_zero, List.push_toArray, List.append_toArray, List.nil_append, List.cons_append]
  refine wpIn_wide.2 ?_
  go_upto_region 1 with (fail)
  obtain ⟨W, hW, hs, b1, b2, x2, b3, hB⟩ := mx_four A B zB #[.float .f32 q] 36 36 23 36 w
  rw [hW]
  clear hW
  have r1 := b1.range
  have cq := x2 0 _ rfl
  rw [Nat.zero_add] at cq
  have B1 := Lib.hid b1
  have B2 := Lib.hid b2
  have B3 := Lib.hid b3
  have HB := Lib.hid hB
  have HA := Lib.hid hA
  have HG := Lib.hid hG
  have TW := Lib.hid (hT.below hB (tab_lt hT))
  have HS := Lib.hid hs
  have hgl := tab_lt hT
  have tk : True := trivial
  clear b1 b2 b3 hB hA hG hT hs x2
  go_upto_region 3 with (first | (have _t := tk; refine ld_stage 36 rfl ?_; refine wpList_load_mid rfl 36 _ rfl (w.heap.size) 0 rfl (BrnL A) _ r1 Tryd.underlying36 rfl (by rw [BrnL_length]; exact infoBrine) ?_) | (have _t := tk; go_at_call 44; have hc := (implValidB_any A W HA.out TW.out); rw [HvA.out] at hc; refine hc.mono ?_; clear hc; rintro e V1 ⟨rfl, hb1⟩; have Hb1 := Lib.hid hb1; have r2 := (B2.out.below hb1 (by have := HS.out; omega)).range; clear hb1 tk r1) | (refine wpList_load_g (by kernel_rfl) 36 _ rfl (w.heap.size + 1) 0 rfl (BrnL B) _ r2 Tryd.underlying36 rfl (by rw [BrnL_length]; exact infoBrine) ?_) | (go_at_call 44; have hc := (implValidB_any B V1 HG.out (TW.out.below Hb1.out (tab_lt TW.out))); rw [HvB.out] at hc; refine hc.mono ?_; clear hc; rintro e V2 ⟨rfl, hb2⟩; have Hb2 := Lib.hid (Hb1.out.trans (hb2.mono Hb1.out.size)); clear hb2 r2))
  have cq := kc cq (by have := HS.out; omega) _ Hb2.out
  have c1 := (B1.out.below Hb2.out (by have := HS.out; omega)).at'.g.wide
  have c2 := (B2.out.below Hb2.out (by have := HS.out; omega)).at'.g.wide
  have c3 := (B1.out.below Hb2.out (by have := HS.out; omega)).at'.g.high
  have c4 := (B2.out.below Hb2.out (by have := HS.out; omega)).at'.g.high
  rw [Nat.zero_add] at c3 c4
  go_upto_region 7 with (go_at_call 56; have hc := isShare_any q V2; rw [Hs.out] at hc; refine hc.mono ?_; clear hc; rintro e w' ⟨rfl, hww⟩; rw [← hww]; clear hww w')
  clear c1 c2 c3 c4 e1 e2 e3 e4
  have bV := B1.out.below Hb2.out (by have := HS.out; omega)
  have b2V := B2.out.below Hb2.out (by have := HS.out; omega)
  have b3V := B3.out.below Hb2.out (by have := HS.out; omega)
  have TV := TW.out.below Hb2.out (tab_lt TW.out)
  have HV := HB.out.trans (Hb2.out.mono (by have := HS.out; omega))
  have zV : w.heap.size + 4 ≤ V2.heap.size := by have := HS.out; have := Hb2.out.size; omega
  clear B1 B2 B3 TW HB Hb1 Hb2
  have BX := Lib.hid bV
  go_upto_region 8 with (first | (go_at_call 52; refine (cells_any A.G A.G.wide.toNat A.G.high.toNat (by omega) (by omega) (by omega) (by omega) _ _ BX.out.at'.g).mono ?_; rintro e w' ⟨rfl, rfl⟩) | (go_at_call 51; refine (bitsIn_any (cellsN A.G) _).mono ?_; rintro e w' ⟨rfl, rfl⟩))
  obtain ⟨Y, hY, zY, rY, uY, hbY⟩ := one_boxT #[.int .u64 (cellsN A.G)] 25 V2
  rw [hY]
  have hm0 := rY 0 _ rfl
  rw [Nat.zero_add] at hm0
  have BY := Lib.hid (bV.below hbY (by omega))
  have B2Y := Lib.hid (b2V.below hbY (by omega))
  have B3Y := Lib.hid (b3V.below hbY (by omega))
  have cq := kc cq (by omega) _ hbY
  have TY := TV.below hbY (tab_lt TV)
  have TYh := Lib.hid TY
  have HY := Lib.hid (HV.trans (hbY.mono (by omega)))
  clear hY rY uY bV b2V b3V TV HV hbY BX wd
  refine (wpIn_wide (n := 6)).1 (wp_bits 42 43 8 V2.heap.size w.heap.size (cellsN A.G) m64 rfl hm0 TY (by omega) (by omega)
    (fun pre W2 => ∃ f : Nat → Nat, BrnBox W2 w.heap.size { A with s := f } ∧ BrnBox W2 (w.heap.size + 1) B ∧ BrnBox W2 (w.heap.size + 1 + 1 + 1) zB ∧ W2.cell? ⟨w.heap.size + 1 + 1, 0, none⟩ = some (.float .f32 q) ∧ (pre.Nodup → ∀ j, j < 64 → num .f32 (f j) = if j ∈ pre then mixO A B q j else num .f32 (A.s j))) (fun _ _ _ => False)
    (fun s A B h ⟨C, h1, h2, h2', h3, h4⟩ => ⟨C, ⟨⟨h.grd h1.at'.g, h.range h1.at'.s, h.range h1.at'.p, h.cell h1.at'.r⟩, h.there h1.there⟩, ⟨⟨h.grd h2.at'.g, h.range h2.at'.s, h.range h2.at'.p, h.cell h2.at'.r⟩, h.there h2.there⟩, ⟨⟨h.grd h2'.at'.g, h.range h2'.at'.s, h.range h2'.at'.p, h.cell h2'.at'.r⟩, h.there h2'.there⟩, h.cell h3, h4⟩) (fun _ _ _ _ _ h => h) ⟨A.s, BY.out, B2Y.out, B3Y.out, cq, fun _ j _ => by simp⟩ ?assign ?body ?done ?stop)
  case assign =>
    intro l x W K hK
    simp only [List.setIfInBounds_toArray, List.set_cons_zero, List.set_cons_succ] at hK ⊢
    gi_wp2
    exact hK
  case body =>
    rintro l pre y W2 ⟨f, h1, h2, h2', cq, h4⟩ hB2 hbit hi
    simp only [List.setIfInBounds_toArray, List.set_cons_zero, List.set_cons_succ]
    have hN' : nos (pre ++ [y]) = nos pre ++ [y.1] := nos_snoc _ _
    generalize y.1 = i at hi hN' hbit ⊢
    have HN' := Lib.hid hN'
    have Hn := Lib.hid (fun r hr => mix_next (r := r) h4 hi hr)
    have HB2 := Lib.hid hB2
    have H1 := Lib.hid h1
    have H2 := Lib.hid h2
    have H3 := Lib.hid h2'
    have hi2 : (i : Int) < 64 := by omega
    have ca : W2.cell? ⟨w.heap.size, 195 + i, none⟩ = some (.float .f32 (f i)) := Grd_fld h1.s i hi
    have cb : W2.cell? ⟨w.heap.size + 1, 195 + i, none⟩ = some (.float .f32 (B.s i)) := Grd_fld h2.s i hi
    clear hN' hB2 hbit h1 h2 h2' h4
    refine wpIn_block ?_
    gi_upto_region 9 with (fail)
    refine wpIn_region_calm (ops' := regOf Tryd.f20 9) [0, 1, 2, 3, 4, 5, 6, 7, 8, 9] [] .fin (Quiet W2) [(0, One (.int .i64 (i : Int))), (1, One (.pointer (some ⟨(w.heap.size + 1), 195, none⟩))), (2, One (.pointer (some ⟨(w.heap.size + 1), 195 + i, none⟩))), (3, One (.float .f32 (B.s i))), (4, One (.int .i64 (i : Int))), (5, One (.pointer (some ⟨w.heap.size, 195, none⟩))), (6, One (.pointer (some ⟨w.heap.size, 195 + i, none⟩))), (7, One (.float .f32 (f i))), (8, Numv .f32 (fop .f32 .sub (num .f32 (B.s i)) (num .f32 (f i)))), (9, Numv .f32 (fop .f32 .sub (num .f32 (B.s i)) (num .f32 (f i))))] (by kernel_rfl) (by kernel_rfl) (by kernel_rfl) (by kernel_rfl) (by kernel_rfl) (by kernel_rfl) (by kernel_rfl) (by kernel_rfl) (by kernel_rfl) rfl ((Quiet.refl _).drewN 1) ?_
    refine calm_pure (some 44) (by kernel_rfl) (by kernel_rfl) (by kernel_rfl) (fun _ => by kernel_rfl) ?_
    refine calm_pure (some 45) (by kernel_rfl) (by kernel_rfl) (by kernel_rfl) (fun _ => by kernel_rfl) ?_
    refine calm_pure (some 46) (by kernel_rfl) (by kernel_rfl) (by kernel_rfl) (index_fld (x := .tmp 45) (y := .tmp 44) (o := 195) (by kernel_rfl) (by kernel_rfl) (by kernel_rfl) hi) ?_
    refine calm_read (some 47) (by kernel_rfl) (by kernel_rfl) (by kernel_rfl) (fun w' hw' => load_cell (ty := 23) (x := .tmp 46) (b := (w.heap.size + 1)) (o := 195 + i) (by kernel_rfl) (by kernel_rfl) Tryd.underlying23 rfl (kq cb w' hw')) ?_
    refine calm_pure (some 48) (by kernel_rfl) (by kernel_rfl) (by kernel_rfl) (fun _ => by kernel_rfl) ?_
    refine calm_pure (some 49) (by kernel_rfl) (by kernel_rfl) (by kernel_rfl) (fun _ => by kernel_rfl) ?_
    refine calm_pure (some 50) (by kernel_rfl) (by kernel_rfl) (by kernel_rfl) (index_fld (x := .tmp 49) (y := .tmp 48) (o := 195) (by kernel_rfl) (by kernel_rfl) (by kernel_rfl) hi) ?_
    refine calm_read (some 51) (by kernel_rfl) (by kernel_rfl) (by kernel_rfl) (fun w' hw' => load_cell (ty := 23) (x := .tmp 50) (b := w.heap.size) (o := 195 + i) (by kernel_rfl) (by kernel_rfl) Tryd.underlying23 rfl (kq ca w' hw')) ?_
    refine calm_float (some 52) .f32 .sub 23 23 (.tmp 47) (.tmp 51) ((B.s i)) ((f i)) (by kernel_rfl) (by kernel_rfl) (by kernel_rfl) (by kernel_rfl) rfl (by kernel_rfl) (by kernel_rfl) (fun _ n h => h.drewN n) (rfl) ?_
    intro r52 hr52
    refine calm_pureV (some 9) (.float .f32 r52) ⟨_, rfl, hr52⟩ (by kernel_rfl) (by kernel_rfl) (by kernel_rfl) (fun _ => by kernel_rfl) ?_
    rintro _ ⟨r9, rfl, hr9⟩
    refine calm_end fun w1 hw1 => plan_end (Clean.normal ?_)
    have ca := kq ca w1 hw1
    have cb := kq cb w1 hw1
    have cq := kq cq w1 hw1
    have R52 := Lib.hid hr9
    have HW1 := Lib.hid hw1
    clear hr52 hr9 hw1
    simp only [Act.put, List.setIfInBounds_toArray, List.set_cons_zero, List.set_cons_succ]
    gi_upto_region 10 with (fail)
    have hr9 := R52.out
    refine wpIn_region_calm (ops' := regOf Tryd.f20 10) [0, 1, 2, 3, 4, 5, 6, 7, 8, 9, 10] [11] (.run 11 .fin) (Quiet w1) [(0, One (.int .i64 (i : Int))), (1, One (.int .i64 (i : Int))), (2, One (.pointer (some ⟨w.heap.size, 195, none⟩))), (3, One (.pointer (some ⟨w.heap.size, 195 + i, none⟩))), (4, One (.float .f32 (f i))), (5, One (.float .f32 q)), (6, Numv .f32 (fop .f32 .sub (num .f32 (B.s i)) (num .f32 (f i)))), (7, Numv .f32 (fop .f32 .mul (num .f32 q) (fop .f32 .sub (num .f32 (B.s i)) (num .f32 (f i))))), (8, Numv .f32 (fop .f32 .add (num .f32 (f i)) (fop .f32 .mul (num .f32 q) (fop .f32 .sub (num .f32 (B.s i)) (num .f32 (f i)))))), (9, One (.pointer (some ⟨w.heap.size, 195, none⟩))), (10, One (.pointer (some ⟨w.heap.size, 195 + i, none⟩)))] (by kernel_rfl) (by kernel_rfl) (by kernel_rfl) (by kernel_rfl) (by kernel_rfl) (by kernel_rfl) (by kernel_rfl) (by kernel_rfl) (by kernel_rfl) rfl ((Quiet.refl _).drewN 1) ?_
    refine calm_pure (some 53) (by kernel_rfl) (by kernel_rfl) (by kernel_rfl) (fun _ => by kernel_rfl) ?_
    refine calm_pure (some 54) (by kernel_rfl) (by kernel_rfl) (by kernel_rfl) (fun _ => by kernel_rfl) ?_
    refine calm_pure (some 55) (by kernel_rfl) (by kernel_rfl) (by kernel_rfl) (fun _ => by kernel_rfl) ?_
    refine calm_pure (some 56) (by kernel_rfl) (by kernel_rfl) (by kernel_rfl) (index_fld (x := .tmp 55) (y := .tmp 54) (o := 195) (by kernel_rfl) (by kernel_rfl) (by kernel_rfl) hi) ?_
    refine calm_read (some 57) (by kernel_rfl) (by kernel_rfl) (by kernel_rfl) (fun w' hw' => load_cell (ty := 23) (x := .tmp 56) (b := w.heap.size) (o := 195 + i) (by kernel_rfl) (by kernel_rfl) Tryd.underlying23 rfl (kq ca w' hw')) ?_
    refine calm_read (some 58) (by kernel_rfl) (by kernel_rfl) (by kernel_rfl) (fun w' hw' => load_cell (ty := 23) (x := .tmp 5) (b := (w.heap.size + 1 + 1)) (o := 0) (by kernel_rfl) (by kernel_rfl) Tryd.underlying23 rfl (kq cq w' hw')) ?_
    refine calm_pureV (some 59) (.float .f32 r9) ⟨_, rfl, hr9⟩ (by kernel_rfl) (by kernel_rfl) (by kernel_rfl) (fun _ => by kernel_rfl) ?_
    rintro _ ⟨r59, rfl, hr59⟩
    refine calm_float (some 60) .f32 .mul 23 23 (.tmp 58) (.tmp 59) (q) (r59) (by kernel_rfl) (by kernel_rfl) (by kernel_rfl) (by kernel_rfl) rfl (by kernel_rfl) (by kernel_rfl) (fun _ n h => h.drewN n) (fop_eq (rfl) hr59) ?_
    intro r60 hr60
    refine calm_float (some 61) .f32 .add 23 23 (.tmp 57) (.tmp 60) ((f i)) (r60) (by kernel_rfl) (by kernel_rfl) (by kernel_rfl) (by kernel_rfl) rfl (by kernel_rfl) (by kernel_rfl) (fun _ n h => h.drewN n) (fop_eq (rfl) hr60) ?_
    intro r61 hr61
    refine calm_pure (some 62) (by kernel_rfl) (by kernel_rfl) (by kernel_rfl) (fun _ => by kernel_rfl) ?_
    refine calm_pure (some 63) (by kernel_rfl) (by kernel_rfl) (by kernel_rfl) (index_fld (x := .tmp 62) (y := .tmp 53) (o := 195) (by kernel_rfl) (by kernel_rfl) (by kernel_rfl) hi) ?_
    refine calm_end fun w2 hw2 => ?_
    have hw3 : Quiet W2 w2 := HW1.out.trans hw2
    have q1 := H1.out.below (hw3.below (w.heap.size + 1)) (by omega)
    obtain ⟨u, hu⟩ := Option.isSome_iff_exists.1 (q1.at_some (195 + i) (by omega))
    refine plan_do none undef (w2.setCell ⟨w.heap.size, 195 + i, none⟩ (.float .f32 r61)) (by kernel_rfl) (by kernel_rfl) (by kernel_rfl) (.inr ⟨store_f32 (x := .tmp 63) (y := .tmp 61) (by kernel_rfl) (by kernel_rfl) (by kernel_rfl) infoF32 hu (q1.free (195 + i) (by omega)), rfl⟩) trivial (plan_end (Clean.normal ?_))
    have Y3 : Below w.heap.size W2 (w2.setCell ⟨w.heap.size, 195 + i, none⟩ (.float .f32 r61)) := (hw3.below _).setCell (p := ⟨w.heap.size, 195 + i, none⟩) (by simp) _
    refine ⟨KeepsOthers.trans (B := w2) (KeepsOthers.of_below' (hw3.below _)) (KeepsOthers.setCell _ _ _), Y3, ⟨_, q1.putS hi, ?_, ?_, ?_, fun hn => ?_⟩, HB2.out.trans Y3⟩
    · exact (H2.out.below (hw3.below (w.heap.size + 1 + 1)) (by omega)).far (by omega)
    · exact (H3.out.below (hw3.below (w.heap.size + 1 + 1 + 1 + 1)) (by omega)).far (by omega)
    · exact (cell_other (fun e => by injection e; omega)).trans (kq cq w2 hw2)
    · rw [HN'.out] at hn ⊢
      exact Hn.out r61 hr61 hn
  case done =>
    rintro D W2 hD ⟨f, h1, h2, h2', h3, h4⟩ hB2 hK
    have e := h4 (bitsL_once _)
    have E := Lib.hid (show MixTo A B q 64 f from fun i hi => by
      rw [e i hi]
      have : (i ∈ bitsL (cellsN A.G)) ↔ (decide (i < 64) && isB A.G i) = true := by
        rw [mem_bitsL, cellsN_testBit]
        simp [hi]
      by_cases hq : i ∈ bitsL (cellsN A.G)
      · rw [if_pos hq, if_pos (this.1 hq)]
      · rw [if_neg hq, if_neg (fun h => hq (this.2 h))])
    have OKf := Lib.hid (show BrnOk { A with s := f } from ⟨HA.out.g, trivial, trivial, trivial⟩)
    have r2 := h1.range
    have T2 := Lib.hid (TYh.out.below hB2 (by omega))
    have H3 := Lib.hid h2'
    have HB3 := Lib.hid (HY.out.trans hB2)
    have hwD : w.heap.size ≤ D := by omega
    have hDn : D ≠ w.heap.size + 1 + 1 + 1 := by omega
    have hDl : D < W2.heap.size := (Array.getElem?_eq_some_iff.1 hK).1
    obtain ⟨C, n, hC⟩ := madeB_is { A with s := f }
    have HC := Lib.hid hC
    have R2 := Lib.hid (R.out (.returned (madeB { A with s := f })) ⟨f, E.out, rfl⟩)
    have hn2 : w.heap.size + 1 + 1 + 1 < W2.heap.size := h2'.lt
    clear h1 h2 h2' h3 h4 hm0 hD hB2 cq hC TYh TY e E
    go_upto_region 11 with (fail)
    go_wp2_with (first | (refine ld_stage 36 rfl ?_; refine wpList_load_mid rfl 36 _ rfl (w.heap.size) 0 rfl (BrnL { A with s := f }) _ r2 Tryd.underlying36 rfl (by rw [BrnL_length]; exact infoBrine) ?_) | (go_at_call 57; have hc := ifValidB_any { A with s := f } W2 OKf.out T2.out; rw [HC.out] at hc; refine hc.mono ?_; clear hc; rintro e V4 ⟨rfl, h4⟩; have H4 := Lib.hid h4; have g4 := Lib.hid (H3.out.below h4 hn2); clear h4) | (refine st_stage 36 rfl ?_; refine wpList_store_mid rfl 36 _ _ rfl _ 0 (BrnA C) rfl rfl (by rw [BrnA_size]; with_reducible exact g4.out.there) (by rw [BrnA_size]; exact infoBrine) (BrnA_one _) ?_))
    have hK4 : (V4.setCells (w.heap.size + 1 + 1 + 1) 0 (BrnL C)).heap[D]? = some (.deferred (some [])) := (heap_setCells_other _ hDn).trans ((H4.out.block D hDl).trans hK)
    have g5 := g4.out.store (C := C)
    have R3 := R2.out
    rw [HC.out] at R3
    exact ret_marks hK4 (fun W' hc => ret_BN rfl rfl rfl (hc.range g5.range)) (fun W' _ hb => ⟨R3, (below_setCells _ (by omega) _ _ _ (HB3.out.trans (H4.out.mono (by have := HB3.out.size; omega)))).trans (hb _ hwD)⟩)
  case stop =>
    rintro D c pre W _ _ h _ _
    exact h.elim
end Go.Proofs.YtnochmlhimddpaaDoor
