/- SameBrine: both sides. Conditions: none. -/
import Derived.Test.YtjmekgogaiokpabSameG
import Derived.Test.YtjmekgogaiokpabSameI
import Derived.Test.YtjmekgogaiokpabBriL
namespace Go.Proofs.Ytjmekgogaiokpab
open Go.RowKit Go.Shelf
attribute [local go_sem] Oper.semAt_some run_store_float
set_option linter.unusedSimpArgs false
set_option linter.unusedVariables false

def sameBB (B C : Brn) : Bool := sameGB B.G C.G && (sameF B.s C.s && (sameF B.p C.p && sameB B.r C.r))
theorem BrnBox.drop {W W' : World} {b : Nat} {B : Brn} (h : BrnBox W b B) (hb : Below W.heap.size W W') : BrnBox W' b B := h.below hb h.lt

set_option maxRecDepth 100000 in
set_option maxHeartbeats 4000000 in
theorem specSameB_any (B C : Brn) (w : World) :
    Calls Try.prog 6 #[.agg (BrnA B), .agg (BrnA C)] w fun e w' => e = .returned (.bool (sameBB B C)) ∧ Below w.heap.size w w' := by
  go_enter Try.func6, Try.ntmps6
  go_upto_region 1 with (fail)
  obtain ⟨W, hW, hs0, b1, b2, hB⟩ := bbox2 B C 35 35 w
  rw [hW]
  clear hW
  have B1 := Lib.hid b1
  have B2 := Lib.hid b2
  have HB := Lib.hid hB
  have hzl : w.heap.size ≤ W.heap.size := by omega
  have g1 := b1.grd.range
  have g2 := b2.grd.range
  have tk : True := trivial
  clear b1 b2 hB hs0
  cases hg : sameGB B.G C.G
  · have R := Lib.hid (show sameBB B C = false by unfold sameBB; rw [hg]; rfl)
    have Hg := Lib.hid hg
    clear hg
    go_wp2_with (first | (go_at_call 14; have hc := l01SameGround_any B.G C.G w.heap.size (w.heap.size + 1) W B1.out.at'.g B2.out.at'.g; rw [Hg.out] at hc; refine hc.mono ?_; clear hc; rintro e w1 ⟨rfl, hq1⟩; have Q1 := Lib.hid hq1; clear hq1))
    go_ret
    exact ⟨ret_bool R.out.symm, HB.out.trans (Q1.out.below _)⟩
  cases hs : sameF B.s C.s
  · have R := Lib.hid (show sameBB B C = false by unfold sameBB; rw [hg, hs]; rfl)
    have Hg := Lib.hid hg
    have Hs := Lib.hid hs
    clear hg hs
    go_wp2_with (first | (go_at_call 14; have hc := l01SameGround_any B.G C.G w.heap.size (w.heap.size + 1) W B1.out.at'.g B2.out.at'.g; rw [Hg.out] at hc; refine hc.mono ?_; clear hc; rintro e w1 ⟨rfl, hq1⟩; have Q1 := Lib.hid hq1; clear hq1) | (have _t := tk; go_at_call 15; have hc := l01SameField_any B.s C.s w.heap.size (w.heap.size + 1) 195 195 w1 (Q1.out.range B1.out.s) (Q1.out.range B2.out.s); rw [Hs.out] at hc; refine hc.mono ?_; clear hc; rintro e w2 ⟨rfl, hq2⟩; have Q2 := Lib.hid (Q1.out.trans hq2); clear hq2 tk))
    go_ret
    exact ⟨ret_bool R.out.symm, HB.out.trans (Q2.out.below _)⟩
  cases hp : sameF B.p C.p
  · have R := Lib.hid (show sameBB B C = false by unfold sameBB; rw [hg, hs, hp]; rfl)
    have Hg := Lib.hid hg
    have Hs := Lib.hid hs
    have Hp := Lib.hid hp
    clear hg hs hp
    go_wp2_with (first | (go_at_call 14; have hc := l01SameGround_any B.G C.G w.heap.size (w.heap.size + 1) W B1.out.at'.g B2.out.at'.g; rw [Hg.out] at hc; refine hc.mono ?_; clear hc; rintro e w1 ⟨rfl, hq1⟩; have Q1 := Lib.hid hq1; clear hq1) | (have _t := tk; go_at_call 15; have hc := l01SameField_any B.s C.s w.heap.size (w.heap.size + 1) 195 195 w1 (Q1.out.range B1.out.s) (Q1.out.range B2.out.s); rw [Hs.out] at hc; refine hc.mono ?_; clear hc; rintro e w2 ⟨rfl, hq2⟩; have Q2 := Lib.hid (Q1.out.trans hq2); clear hq2 tk) | (go_at_call 15; have hc := l01SameField_any B.p C.p w.heap.size (w.heap.size + 1) 259 259 w2 (Q2.out.range B1.out.p) (Q2.out.range B2.out.p); rw [Hp.out] at hc; refine hc.mono ?_; clear hc; rintro e w3 ⟨rfl, hq3⟩; have Q3 := Lib.hid (Q2.out.trans hq3); have d1 := (Q3.out.cell _).trans B1.out.r; have d2 := (Q3.out.cell _).trans B2.out.r; clear hq3))
    go_ret
    exact ⟨ret_bool R.out.symm, HB.out.trans (Q3.out.below _)⟩
  have R := Lib.hid (show sameBB B C = sameB B.r C.r by unfold sameBB; rw [hg, hs, hp]; rfl)
  have Hg := Lib.hid hg
  have Hs := Lib.hid hs
  have Hp := Lib.hid hp
  clear hg hs hp
  go_wp2_with (first | (go_at_call 14; have hc := l01SameGround_any B.G C.G w.heap.size (w.heap.size + 1) W B1.out.at'.g B2.out.at'.g; rw [Hg.out] at hc; refine hc.mono ?_; clear hc; rintro e w1 ⟨rfl, hq1⟩; have Q1 := Lib.hid hq1; clear hq1) | (have _t := tk; go_at_call 15; have hc := l01SameField_any B.s C.s w.heap.size (w.heap.size + 1) 195 195 w1 (Q1.out.range B1.out.s) (Q1.out.range B2.out.s); rw [Hs.out] at hc; refine hc.mono ?_; clear hc; rintro e w2 ⟨rfl, hq2⟩; have Q2 := Lib.hid (Q1.out.trans hq2); clear hq2 tk) | (go_at_call 15; have hc := l01SameField_any B.p C.p w.heap.size (w.heap.size + 1) 259 259 w2 (Q2.out.range B1.out.p) (Q2.out.range B2.out.p); rw [Hp.out] at hc; refine hc.mono ?_; clear hc; rintro e w3 ⟨rfl, hq3⟩; have Q3 := Lib.hid (Q2.out.trans hq3); have d1 := (Q3.out.cell _).trans B1.out.r; have d2 := (Q3.out.cell _).trans B2.out.r; clear hq3) | (go_at_call 16; refine (l01Same_any B.r C.r _).mono ?_; rintro e w4 ⟨rfl, rfl⟩))
  go_ret
  exact ⟨ret_bool R.out.symm, HB.out.trans (Q3.out.below _)⟩

set_option maxRecDepth 100000 in
set_option maxHeartbeats 4000000 in
theorem implSameB_any (B C : Brn) (w : World) :
    Calls Try.prog 8 #[.agg (BrnA B), .agg (BrnA C)] w fun e w' => e = .returned (.bool (sameBB B C)) ∧ Below w.heap.size w w' := by
  go_enter Try.func8, Try.ntmps8
  go_upto_region 1 with (fail)
  obtain ⟨W, hW, hs0, b1, b2, hB⟩ := bbox2 B C 35 35 w
  rw [hW]
  clear hW
  have B1 := Lib.hid b1
  have B2 := Lib.hid b2
  have HB := Lib.hid hB
  have hzl : w.heap.size ≤ W.heap.size := by omega
  have g1 := b1.grd.range
  have g2 := b2.grd.range
  have tk : True := trivial
  clear b1 b2 hB hs0
  cases hg : sameGB B.G C.G
  · have R := Lib.hid (show sameBB B C = false by unfold sameBB; rw [hg]; rfl)
    have Hg := Lib.hid hg
    clear hg
    go_wp2_with (first | (refine wpList_load_g (by rfl) 33 _ rfl (w.heap.size) 0 rfl (GrdL B.G) _ g1 Try.underlying33 rfl (by rw [GrdL_length]; exact infoGround) ?_) | (refine wpList_load_g (by rfl) 33 _ rfl (w.heap.size + 1) 0 rfl (GrdL C.G) _ g2 Try.underlying33 rfl (by rw [GrdL_length]; exact infoGround) ?_) | (go_at_call 19; have hc := implSameGround_any B.G C.G W; rw [Hg.out] at hc; refine hc.mono ?_; clear hc; rintro e w1 ⟨rfl, hq1⟩; have Q1 := Lib.hid hq1; have C1 := Lib.hid (B1.out.drop hq1); have C2 := Lib.hid (B2.out.drop hq1); have s1 := C1.out.s; have s2 := C2.out.s; clear hq1))
    go_ret
    exact ⟨ret_bool R.out.symm, HB.out.trans (Q1.out.mono hzl)⟩
  cases hs : sameF B.s C.s
  · have R := Lib.hid (show sameBB B C = false by unfold sameBB; rw [hg, hs]; rfl)
    have Hg := Lib.hid hg
    have Hs := Lib.hid hs
    clear hg hs
    go_wp2_with (first | (refine wpList_load_g (by rfl) 33 _ rfl (w.heap.size) 0 rfl (GrdL B.G) _ g1 Try.underlying33 rfl (by rw [GrdL_length]; exact infoGround) ?_) | (refine wpList_load_g (by rfl) 33 _ rfl (w.heap.size + 1) 0 rfl (GrdL C.G) _ g2 Try.underlying33 rfl (by rw [GrdL_length]; exact infoGround) ?_) | (go_at_call 19; have hc := implSameGround_any B.G C.G W; rw [Hg.out] at hc; refine hc.mono ?_; clear hc; rintro e w1 ⟨rfl, hq1⟩; have Q1 := Lib.hid hq1; have C1 := Lib.hid (B1.out.drop hq1); have C2 := Lib.hid (B2.out.drop hq1); have s1 := C1.out.s; have s2 := C2.out.s; clear hq1) | (refine wpList_load_g (by rfl) 31 _ rfl (w.heap.size) 195 rfl (Fld B.s).toList _ s1 Try.underlying31 rfl (by rw [Fld_length]; exact infoField) ?_) | (refine wpList_load_g (by rfl) 31 _ rfl (w.heap.size + 1) 195 rfl (Fld C.s).toList _ s2 Try.underlying31 rfl (by rw [Fld_length]; exact infoField) ?_) | (have _t := tk; go_at_call 20; have hc := implSameField_any B.s C.s w1; rw [Hs.out] at hc; refine hc.mono ?_; clear hc; rintro e w2 ⟨rfl, hq2⟩; have Q2 := Lib.hid (Q1.out.trans (hq2.mono Q1.out.size)); have D1 := Lib.hid (C1.out.drop hq2); have D2 := Lib.hid (C2.out.drop hq2); have p1 := D1.out.p; have p2 := D2.out.p; clear hq2 tk))
    go_ret
    exact ⟨ret_bool R.out.symm, HB.out.trans (Q2.out.mono hzl)⟩
  cases hp : sameF B.p C.p
  · have R := Lib.hid (show sameBB B C = false by unfold sameBB; rw [hg, hs, hp]; rfl)
    have Hg := Lib.hid hg
    have Hs := Lib.hid hs
    have Hp := Lib.hid hp
    clear hg hs hp
    go_wp2_with (first | (refine wpList_load_g (by rfl) 33 _ rfl (w.heap.size) 0 rfl (GrdL B.G) _ g1 Try.underlying33 rfl (by rw [GrdL_length]; exact infoGround) ?_) | (refine wpList_load_g (by rfl) 33 _ rfl (w.heap.size + 1) 0 rfl (GrdL C.G) _ g2 Try.underlying33 rfl (by rw [GrdL_length]; exact infoGround) ?_) | (go_at_call 19; have hc := implSameGround_any B.G C.G W; rw [Hg.out] at hc; refine hc.mono ?_; clear hc; rintro e w1 ⟨rfl, hq1⟩; have Q1 := Lib.hid hq1; have C1 := Lib.hid (B1.out.drop hq1); have C2 := Lib.hid (B2.out.drop hq1); have s1 := C1.out.s; have s2 := C2.out.s; clear hq1) | (refine wpList_load_g (by rfl) 31 _ rfl (w.heap.size) 195 rfl (Fld B.s).toList _ s1 Try.underlying31 rfl (by rw [Fld_length]; exact infoField) ?_) | (refine wpList_load_g (by rfl) 31 _ rfl (w.heap.size + 1) 195 rfl (Fld C.s).toList _ s2 Try.underlying31 rfl (by rw [Fld_length]; exact infoField) ?_) | (have _t := tk; go_at_call 20; have hc := implSameField_any B.s C.s w1; rw [Hs.out] at hc; refine hc.mono ?_; clear hc; rintro e w2 ⟨rfl, hq2⟩; have Q2 := Lib.hid (Q1.out.trans (hq2.mono Q1.out.size)); have D1 := Lib.hid (C1.out.drop hq2); have D2 := Lib.hid (C2.out.drop hq2); have p1 := D1.out.p; have p2 := D2.out.p; clear hq2 tk) | (refine wpList_load_g (by rfl) 31 _ rfl (w.heap.size) 259 rfl (Fld B.p).toList _ p1 Try.underlying31 rfl (by rw [Fld_length]; exact infoField) ?_) | (refine wpList_load_g (by rfl) 31 _ rfl (w.heap.size + 1) 259 rfl (Fld C.p).toList _ p2 Try.underlying31 rfl (by rw [Fld_length]; exact infoField) ?_) | (go_at_call 20; have hc := implSameField_any B.p C.p w2; rw [Hp.out] at hc; refine hc.mono ?_; clear hc; rintro e w3 ⟨rfl, hq3⟩; have Q3 := Lib.hid (Q2.out.trans (hq3.mono Q2.out.size)); have d1 := (D1.out.drop hq3).r; have d2 := (D2.out.drop hq3).r; clear hq3))
    go_ret
    exact ⟨ret_bool R.out.symm, HB.out.trans (Q3.out.mono hzl)⟩
  have R := Lib.hid (show sameBB B C = sameB B.r C.r by unfold sameBB; rw [hg, hs, hp]; rfl)
  have Hg := Lib.hid hg
  have Hs := Lib.hid hs
  have Hp := Lib.hid hp
  clear hg hs hp
  go_wp2_with (first | (refine wpList_load_g (by rfl) 33 _ rfl (w.heap.size) 0 rfl (GrdL B.G) _ g1 Try.underlying33 rfl (by rw [GrdL_length]; exact infoGround) ?_) | (refine wpList_load_g (by rfl) 33 _ rfl (w.heap.size + 1) 0 rfl (GrdL C.G) _ g2 Try.underlying33 rfl (by rw [GrdL_length]; exact infoGround) ?_) | (go_at_call 19; have hc := implSameGround_any B.G C.G W; rw [Hg.out] at hc; refine hc.mono ?_; clear hc; rintro e w1 ⟨rfl, hq1⟩; have Q1 := Lib.hid hq1; have C1 := Lib.hid (B1.out.drop hq1); have C2 := Lib.hid (B2.out.drop hq1); have s1 := C1.out.s; have s2 := C2.out.s; clear hq1) | (refine wpList_load_g (by rfl) 31 _ rfl (w.heap.size) 195 rfl (Fld B.s).toList _ s1 Try.underlying31 rfl (by rw [Fld_length]; exact infoField) ?_) | (refine wpList_load_g (by rfl) 31 _ rfl (w.heap.size + 1) 195 rfl (Fld C.s).toList _ s2 Try.underlying31 rfl (by rw [Fld_length]; exact infoField) ?_) | (have _t := tk; go_at_call 20; have hc := implSameField_any B.s C.s w1; rw [Hs.out] at hc; refine hc.mono ?_; clear hc; rintro e w2 ⟨rfl, hq2⟩; have Q2 := Lib.hid (Q1.out.trans (hq2.mono Q1.out.size)); have D1 := Lib.hid (C1.out.drop hq2); have D2 := Lib.hid (C2.out.drop hq2); have p1 := D1.out.p; have p2 := D2.out.p; clear hq2 tk) | (refine wpList_load_g (by rfl) 31 _ rfl (w.heap.size) 259 rfl (Fld B.p).toList _ p1 Try.underlying31 rfl (by rw [Fld_length]; exact infoField) ?_) | (refine wpList_load_g (by rfl) 31 _ rfl (w.heap.size + 1) 259 rfl (Fld C.p).toList _ p2 Try.underlying31 rfl (by rw [Fld_length]; exact infoField) ?_) | (go_at_call 20; have hc := implSameField_any B.p C.p w2; rw [Hp.out] at hc; refine hc.mono ?_; clear hc; rintro e w3 ⟨rfl, hq3⟩; have Q3 := Lib.hid (Q2.out.trans (hq3.mono Q2.out.size)); have d1 := (D1.out.drop hq3).r; have d2 := (D2.out.drop hq3).r; clear hq3) | (go_at_call 21; refine (sameNumber_any B.r C.r _).mono ?_; rintro e w4 ⟨rfl, rfl⟩))
  go_ret
  exact ⟨ret_bool R.out.symm, HB.out.trans (Q3.out.mono hzl)⟩
end Go.Proofs.Ytjmekgogaiokpab
