/- The program's SameGround: it tells whether two grounds are the same. Condition: none. -/
import Derived.Test.YtjmekgogaiokpabSameD
namespace Go.Proofs.Ytjmekgogaiokpab
open Go.RowKit
set_option linter.unusedSimpArgs false

theorem GrdAt.mono {W V : World} {b o : Nat} {G : Gd} (h : GrdAt W b o G) (hb : Below W.heap.size W V) (hn : b < W.heap.size) : GrdAt V b o G := h.below hb hn

theorem implSameField_is (f g : Nat → Nat) (r : Bool) (h : sameF f g = r) (w : World) :
    Calls Try.prog 20 #[.agg (Fld f), .agg (Fld g)] w fun e w' => e = .returned (.bool r) ∧ Below w.heap.size w w' := by
  subst h
  exact implSameField_any f g w

set_option maxRecDepth 100000 in
set_option maxHeartbeats 1000000 in
theorem implSameGround_0 (G H : Gd) (w : World) (e0 : (G.wide != H.wide) = true) :
    Calls Try.prog 19 #[.agg (Grd G), .agg (Grd H)] w fun e w' => e = .returned (.bool false) ∧ Below w.heap.size w w' := by
  obtain ⟨W, hW, hz, hp, hq, hb⟩ := two_boxes (Grd G) (Grd H) 33 33 w
  have gp := grdAt hp
  have gq := grdAt hq
  have a0 := gp.wide; have a1 := gp.high; have a5 := gp.x
  have b0 := gq.wide; have b1 := gq.high; have b5 := gq.x
  rw [Nat.zero_add] at a1 a5 b1 b5
  have HW := Lib.hid hW
  have hz1 : w.heap.size < W.heap.size := by omega
  have hz2 : w.heap.size + 1 < W.heap.size := by omega
  have hzb : w.heap.size ≤ W.heap.size := by omega
  have D1 := Lib.hid hz1
  have D2 := Lib.hid hz2
  have D3 := Lib.hid hzb
  clear hW hz hp hq hz1 hz2 hzb
  go_enter Try.func19, Try.ntmps19
  go_upto_region 1 with (fail)
  rw [HW.out]
  go_wp2
  go_ret
  exact ⟨rfl, hb⟩

set_option maxRecDepth 100000 in
set_option maxHeartbeats 1000000 in
theorem implSameGround_1 (G H : Gd) (w : World) (e0 : (G.wide != H.wide) = false) (e1 : (G.high != H.high) = true) :
    Calls Try.prog 19 #[.agg (Grd G), .agg (Grd H)] w fun e w' => e = .returned (.bool false) ∧ Below w.heap.size w w' := by
  obtain ⟨W, hW, hz, hp, hq, hb⟩ := two_boxes (Grd G) (Grd H) 33 33 w
  have gp := grdAt hp
  have gq := grdAt hq
  have a0 := gp.wide; have a1 := gp.high; have a5 := gp.x
  have b0 := gq.wide; have b1 := gq.high; have b5 := gq.x
  rw [Nat.zero_add] at a1 a5 b1 b5
  have HW := Lib.hid hW
  have hz1 : w.heap.size < W.heap.size := by omega
  have hz2 : w.heap.size + 1 < W.heap.size := by omega
  have hzb : w.heap.size ≤ W.heap.size := by omega
  have D1 := Lib.hid hz1
  have D2 := Lib.hid hz2
  have D3 := Lib.hid hzb
  clear hW hz hp hq hz1 hz2 hzb
  go_enter Try.func19, Try.ntmps19
  go_upto_region 1 with (fail)
  rw [HW.out]
  go_wp2
  go_ret
  exact ⟨rfl, hb⟩

set_option maxRecDepth 100000 in
set_option maxHeartbeats 1000000 in
theorem implSameGround_2 (G H : Gd) (w : World) (e0 : (G.wide != H.wide) = false) (e1 : (G.high != H.high) = false) (e2 : (G.x != H.x) = true) :
    Calls Try.prog 19 #[.agg (Grd G), .agg (Grd H)] w fun e w' => e = .returned (.bool false) ∧ Below w.heap.size w w' := by
  obtain ⟨W, hW, hz, hp, hq, hb⟩ := two_boxes (Grd G) (Grd H) 33 33 w
  have gp := grdAt hp
  have gq := grdAt hq
  have a0 := gp.wide; have a1 := gp.high; have a5 := gp.x
  have b0 := gq.wide; have b1 := gq.high; have b5 := gq.x
  rw [Nat.zero_add] at a1 a5 b1 b5
  have HW := Lib.hid hW
  have hz1 : w.heap.size < W.heap.size := by omega
  have hz2 : w.heap.size + 1 < W.heap.size := by omega
  have hzb : w.heap.size ≤ W.heap.size := by omega
  have D1 := Lib.hid hz1
  have D2 := Lib.hid hz2
  have D3 := Lib.hid hzb
  clear hW hz hp hq hz1 hz2 hzb
  go_enter Try.func19, Try.ntmps19
  go_upto_region 1 with (fail)
  rw [HW.out]
  go_wp2
  go_ret
  exact ⟨rfl, hb⟩

set_option maxRecDepth 100000 in
set_option maxHeartbeats 1000000 in
theorem implSameGround_3 (G H : Gd) (w : World) (e0 : (G.wide != H.wide) = false) (e1 : (G.high != H.high) = false) (e2 : (G.x != H.x) = false) (Sc : Hid (sameF G.c H.c = false)) :
    Calls Try.prog 19 #[.agg (Grd G), .agg (Grd H)] w fun e w' => e = .returned (.bool false) ∧ Below w.heap.size w w' := by
  obtain ⟨W, hW, hz, hp, hq, hb⟩ := two_boxes (Grd G) (Grd H) 33 33 w
  have gp := grdAt hp
  have gq := grdAt hq
  have a0 := gp.wide; have a1 := gp.high; have a5 := gp.x
  have b0 := gq.wide; have b1 := gq.high; have b5 := gq.x
  rw [Nat.zero_add] at a1 a5 b1 b5
  have HW := Lib.hid hW
  have hz1 : w.heap.size < W.heap.size := by omega
  have hz2 : w.heap.size + 1 < W.heap.size := by omega
  have hzb : w.heap.size ≤ W.heap.size := by omega
  have D1 := Lib.hid hz1
  have D2 := Lib.hid hz2
  have D3 := Lib.hid hzb
  clear hW hz hp hq hz1 hz2 hzb
  go_enter Try.func19, Try.ntmps19
  go_upto_region 1 with (fail)
  rw [HW.out]
  go_upto_region 3 with (fail)
  clear a0 a1 a5 b0 b1 b5
  have tk0 : True := trivial
  have tk1 : True := trivial
  have tk2 : True := trivial
  go_wp2_with (first | (refine wpList_load_g (by rfl) 31 _ rfl w.heap.size (0 + 2) rfl (Fld G.c).toList _ gp.c Try.underlying31 rfl (by rw [Fld_length]; exact infoField) ?_) | (refine wpList_load_g (by rfl) 31 _ rfl (w.heap.size + 1) (0 + 2) rfl (Fld H.c).toList _ gq.c Try.underlying31 rfl (by rw [Fld_length]; exact infoField) ?_) | (have _t := tk0; go_at_call 20; refine (implSameField_is G.c H.c false Sc.out _).mono ?_; rintro e V0 ⟨rfl, hb0⟩; clear tk0; have p0 := gp.mono hb0 D1.out; have q0 := gq.mono hb0 D2.out; have Y0a := Lib.hid (Nat.lt_of_lt_of_le D1.out hb0.size); have Y0b := Lib.hid (Nat.lt_of_lt_of_le D2.out hb0.size); have Y0c := Lib.hid (Nat.le_trans D3.out hb0.size); have Z0 := below_step hb hb0 D3.out))
  go_ret
  exact ⟨rfl, Z0⟩

set_option maxRecDepth 100000 in
set_option maxHeartbeats 1000000 in
theorem implSameGround_4 (G H : Gd) (w : World) (e0 : (G.wide != H.wide) = false) (e1 : (G.high != H.high) = false) (e2 : (G.x != H.x) = false) (Sc : Hid (sameF G.c H.c = true)) (Sg : Hid (sameF G.g H.g = false)) :
    Calls Try.prog 19 #[.agg (Grd G), .agg (Grd H)] w fun e w' => e = .returned (.bool false) ∧ Below w.heap.size w w' := by
  obtain ⟨W, hW, hz, hp, hq, hb⟩ := two_boxes (Grd G) (Grd H) 33 33 w
  have gp := grdAt hp
  have gq := grdAt hq
  have a0 := gp.wide; have a1 := gp.high; have a5 := gp.x
  have b0 := gq.wide; have b1 := gq.high; have b5 := gq.x
  rw [Nat.zero_add] at a1 a5 b1 b5
  have HW := Lib.hid hW
  have hz1 : w.heap.size < W.heap.size := by omega
  have hz2 : w.heap.size + 1 < W.heap.size := by omega
  have hzb : w.heap.size ≤ W.heap.size := by omega
  have D1 := Lib.hid hz1
  have D2 := Lib.hid hz2
  have D3 := Lib.hid hzb
  clear hW hz hp hq hz1 hz2 hzb
  go_enter Try.func19, Try.ntmps19
  go_upto_region 1 with (fail)
  rw [HW.out]
  go_upto_region 3 with (fail)
  clear a0 a1 a5 b0 b1 b5
  have tk0 : True := trivial
  have tk1 : True := trivial
  have tk2 : True := trivial
  go_wp2_with (first | (refine wpList_load_g (by rfl) 31 _ rfl w.heap.size (0 + 2) rfl (Fld G.c).toList _ gp.c Try.underlying31 rfl (by rw [Fld_length]; exact infoField) ?_) | (refine wpList_load_g (by rfl) 31 _ rfl (w.heap.size + 1) (0 + 2) rfl (Fld H.c).toList _ gq.c Try.underlying31 rfl (by rw [Fld_length]; exact infoField) ?_) | (have _t := tk0; go_at_call 20; refine (implSameField_is G.c H.c true Sc.out _).mono ?_; rintro e V0 ⟨rfl, hb0⟩; clear tk0; have p0 := gp.mono hb0 D1.out; have q0 := gq.mono hb0 D2.out; have Y0a := Lib.hid (Nat.lt_of_lt_of_le D1.out hb0.size); have Y0b := Lib.hid (Nat.lt_of_lt_of_le D2.out hb0.size); have Y0c := Lib.hid (Nat.le_trans D3.out hb0.size); have Z0 := below_step hb hb0 D3.out) | (refine wpList_load_g (by rfl) 31 _ rfl w.heap.size (0 + 66) rfl (Fld G.g).toList _ p0.g Try.underlying31 rfl (by rw [Fld_length]; exact infoField) ?_) | (refine wpList_load_g (by rfl) 31 _ rfl (w.heap.size + 1) (0 + 66) rfl (Fld H.g).toList _ q0.g Try.underlying31 rfl (by rw [Fld_length]; exact infoField) ?_) | (have _t := tk1; go_at_call 20; refine (implSameField_is G.g H.g false Sg.out _).mono ?_; rintro e V1 ⟨rfl, hb1⟩; clear tk1; have p1 := p0.mono hb1 Y0a.out; have q1 := q0.mono hb1 Y0b.out; have Y1a := Lib.hid (Nat.lt_of_lt_of_le Y0a.out hb1.size); have Y1b := Lib.hid (Nat.lt_of_lt_of_le Y0b.out hb1.size); have Y1c := Lib.hid (Nat.le_trans Y0c.out hb1.size); have Z1 := below_step Z0 hb1 Y0c.out))
  go_ret
  exact ⟨rfl, Z1⟩

set_option maxRecDepth 100000 in
set_option maxHeartbeats 1000000 in
theorem implSameGround_5 (G H : Gd) (w : World) (e0 : (G.wide != H.wide) = false) (e1 : (G.high != H.high) = false) (e2 : (G.x != H.x) = false) (Sc : Hid (sameF G.c H.c = true)) (Sg : Hid (sameF G.g H.g = true)) (Sh : Hid (sameF G.h H.h = false)) :
    Calls Try.prog 19 #[.agg (Grd G), .agg (Grd H)] w fun e w' => e = .returned (.bool false) ∧ Below w.heap.size w w' := by
  obtain ⟨W, hW, hz, hp, hq, hb⟩ := two_boxes (Grd G) (Grd H) 33 33 w
  have gp := grdAt hp
  have gq := grdAt hq
  have a0 := gp.wide; have a1 := gp.high; have a5 := gp.x
  have b0 := gq.wide; have b1 := gq.high; have b5 := gq.x
  rw [Nat.zero_add] at a1 a5 b1 b5
  have HW := Lib.hid hW
  have hz1 : w.heap.size < W.heap.size := by omega
  have hz2 : w.heap.size + 1 < W.heap.size := by omega
  have hzb : w.heap.size ≤ W.heap.size := by omega
  have D1 := Lib.hid hz1
  have D2 := Lib.hid hz2
  have D3 := Lib.hid hzb
  clear hW hz hp hq hz1 hz2 hzb
  go_enter Try.func19, Try.ntmps19
  go_upto_region 1 with (fail)
  rw [HW.out]
  go_upto_region 3 with (fail)
  clear a0 a1 a5 b0 b1 b5
  have tk0 : True := trivial
  have tk1 : True := trivial
  have tk2 : True := trivial
  go_wp2_with (first | (refine wpList_load_g (by rfl) 31 _ rfl w.heap.size (0 + 2) rfl (Fld G.c).toList _ gp.c Try.underlying31 rfl (by rw [Fld_length]; exact infoField) ?_) | (refine wpList_load_g (by rfl) 31 _ rfl (w.heap.size + 1) (0 + 2) rfl (Fld H.c).toList _ gq.c Try.underlying31 rfl (by rw [Fld_length]; exact infoField) ?_) | (have _t := tk0; go_at_call 20; refine (implSameField_is G.c H.c true Sc.out _).mono ?_; rintro e V0 ⟨rfl, hb0⟩; clear tk0; have p0 := gp.mono hb0 D1.out; have q0 := gq.mono hb0 D2.out; have Y0a := Lib.hid (Nat.lt_of_lt_of_le D1.out hb0.size); have Y0b := Lib.hid (Nat.lt_of_lt_of_le D2.out hb0.size); have Y0c := Lib.hid (Nat.le_trans D3.out hb0.size); have Z0 := below_step hb hb0 D3.out) | (refine wpList_load_g (by rfl) 31 _ rfl w.heap.size (0 + 66) rfl (Fld G.g).toList _ p0.g Try.underlying31 rfl (by rw [Fld_length]; exact infoField) ?_) | (refine wpList_load_g (by rfl) 31 _ rfl (w.heap.size + 1) (0 + 66) rfl (Fld H.g).toList _ q0.g Try.underlying31 rfl (by rw [Fld_length]; exact infoField) ?_) | (have _t := tk1; go_at_call 20; refine (implSameField_is G.g H.g true Sg.out _).mono ?_; rintro e V1 ⟨rfl, hb1⟩; clear tk1; have p1 := p0.mono hb1 Y0a.out; have q1 := q0.mono hb1 Y0b.out; have Y1a := Lib.hid (Nat.lt_of_lt_of_le Y0a.out hb1.size); have Y1b := Lib.hid (Nat.lt_of_lt_of_le Y0b.out hb1.size); have Y1c := Lib.hid (Nat.le_trans Y0c.out hb1.size); have Z1 := below_step Z0 hb1 Y0c.out) | (refine wpList_load_g (by rfl) 31 _ rfl w.heap.size (0 + 130) rfl (Fld G.h).toList _ p1.h Try.underlying31 rfl (by rw [Fld_length]; exact infoField) ?_) | (refine wpList_load_g (by rfl) 31 _ rfl (w.heap.size + 1) (0 + 130) rfl (Fld H.h).toList _ q1.h Try.underlying31 rfl (by rw [Fld_length]; exact infoField) ?_) | (have _t := tk2; go_at_call 20; refine (implSameField_is G.h H.h false Sh.out _).mono ?_; rintro e V2 ⟨rfl, hb2⟩; clear tk2; have p2 := p1.mono hb2 Y1a.out; have q2 := q1.mono hb2 Y1b.out; have Y2a := Lib.hid (Nat.lt_of_lt_of_le Y1a.out hb2.size); have Y2b := Lib.hid (Nat.lt_of_lt_of_le Y1b.out hb2.size); have Y2c := Lib.hid (Nat.le_trans Y1c.out hb2.size); have Z2 := below_step Z1 hb2 Y1c.out))
  go_ret
  exact ⟨rfl, Z2⟩

set_option maxRecDepth 100000 in
set_option maxHeartbeats 1000000 in
theorem implSameGround_6 (G H : Gd) (w : World) (e0 : (G.wide != H.wide) = false) (e1 : (G.high != H.high) = false) (e2 : (G.x != H.x) = false) (Sc : Hid (sameF G.c H.c = true)) (Sg : Hid (sameF G.g H.g = true)) (Sh : Hid (sameF G.h H.h = true)) :
    Calls Try.prog 19 #[.agg (Grd G), .agg (Grd H)] w fun e w' => e = .returned (.bool true) ∧ Below w.heap.size w w' := by
  obtain ⟨W, hW, hz, hp, hq, hb⟩ := two_boxes (Grd G) (Grd H) 33 33 w
  have gp := grdAt hp
  have gq := grdAt hq
  have a0 := gp.wide; have a1 := gp.high; have a5 := gp.x
  have b0 := gq.wide; have b1 := gq.high; have b5 := gq.x
  rw [Nat.zero_add] at a1 a5 b1 b5
  have HW := Lib.hid hW
  have hz1 : w.heap.size < W.heap.size := by omega
  have hz2 : w.heap.size + 1 < W.heap.size := by omega
  have hzb : w.heap.size ≤ W.heap.size := by omega
  have D1 := Lib.hid hz1
  have D2 := Lib.hid hz2
  have D3 := Lib.hid hzb
  clear hW hz hp hq hz1 hz2 hzb
  go_enter Try.func19, Try.ntmps19
  go_upto_region 1 with (fail)
  rw [HW.out]
  go_upto_region 3 with (fail)
  clear a0 a1 a5 b0 b1 b5
  have tk0 : True := trivial
  have tk1 : True := trivial
  have tk2 : True := trivial
  go_wp2_with (first | (refine wpList_load_g (by rfl) 31 _ rfl w.heap.size (0 + 2) rfl (Fld G.c).toList _ gp.c Try.underlying31 rfl (by rw [Fld_length]; exact infoField) ?_) | (refine wpList_load_g (by rfl) 31 _ rfl (w.heap.size + 1) (0 + 2) rfl (Fld H.c).toList _ gq.c Try.underlying31 rfl (by rw [Fld_length]; exact infoField) ?_) | (have _t := tk0; go_at_call 20; refine (implSameField_is G.c H.c true Sc.out _).mono ?_; rintro e V0 ⟨rfl, hb0⟩; clear tk0; have p0 := gp.mono hb0 D1.out; have q0 := gq.mono hb0 D2.out; have Y0a := Lib.hid (Nat.lt_of_lt_of_le D1.out hb0.size); have Y0b := Lib.hid (Nat.lt_of_lt_of_le D2.out hb0.size); have Y0c := Lib.hid (Nat.le_trans D3.out hb0.size); have Z0 := below_step hb hb0 D3.out) | (refine wpList_load_g (by rfl) 31 _ rfl w.heap.size (0 + 66) rfl (Fld G.g).toList _ p0.g Try.underlying31 rfl (by rw [Fld_length]; exact infoField) ?_) | (refine wpList_load_g (by rfl) 31 _ rfl (w.heap.size + 1) (0 + 66) rfl (Fld H.g).toList _ q0.g Try.underlying31 rfl (by rw [Fld_length]; exact infoField) ?_) | (have _t := tk1; go_at_call 20; refine (implSameField_is G.g H.g true Sg.out _).mono ?_; rintro e V1 ⟨rfl, hb1⟩; clear tk1; have p1 := p0.mono hb1 Y0a.out; have q1 := q0.mono hb1 Y0b.out; have Y1a := Lib.hid (Nat.lt_of_lt_of_le Y0a.out hb1.size); have Y1b := Lib.hid (Nat.lt_of_lt_of_le Y0b.out hb1.size); have Y1c := Lib.hid (Nat.le_trans Y0c.out hb1.size); have Z1 := below_step Z0 hb1 Y0c.out) | (refine wpList_load_g (by rfl) 31 _ rfl w.heap.size (0 + 130) rfl (Fld G.h).toList _ p1.h Try.underlying31 rfl (by rw [Fld_length]; exact infoField) ?_) | (refine wpList_load_g (by rfl) 31 _ rfl (w.heap.size + 1) (0 + 130) rfl (Fld H.h).toList _ q1.h Try.underlying31 rfl (by rw [Fld_length]; exact infoField) ?_) | (have _t := tk2; go_at_call 20; refine (implSameField_is G.h H.h true Sh.out _).mono ?_; rintro e V2 ⟨rfl, hb2⟩; clear tk2; have p2 := p1.mono hb2 Y1a.out; have q2 := q1.mono hb2 Y1b.out; have Y2a := Lib.hid (Nat.lt_of_lt_of_le Y1a.out hb2.size); have Y2b := Lib.hid (Nat.lt_of_lt_of_le Y1b.out hb2.size); have Y2c := Lib.hid (Nat.le_trans Y1c.out hb2.size); have Z2 := below_step Z1 hb2 Y1c.out))
  go_ret
  exact ⟨rfl, Z2⟩

theorem implSameGround_any (G H : Gd) (w : World) :
    Calls Try.prog 19 #[.agg (Grd G), .agg (Grd H)] w fun e w' => e = .returned (.bool (sameGB G H)) ∧ Below w.heap.size w w' := by
  cases e0 : (G.wide == H.wide)
  · rw [← sameGB_0 e0]; exact implSameGround_0 G H w (by simpa [bne] using e0)
  cases e1 : (G.high == H.high)
  · rw [← sameGB_1 e1]; exact implSameGround_1 G H w (by simpa [bne] using e0) (by simpa [bne] using e1)
  cases e2 : (G.x == H.x)
  · rw [← sameGB_2 e2]; exact implSameGround_2 G H w (by simpa [bne] using e0) (by simpa [bne] using e1) (by simpa [bne] using e2)
  cases sc : sameF G.c H.c
  · rw [← sameGB_3 sc]; exact implSameGround_3 G H w (by simpa [bne] using e0) (by simpa [bne] using e1) (by simpa [bne] using e2) sc
  cases sg : sameF G.g H.g
  · rw [← sameGB_4 sg]; exact implSameGround_4 G H w (by simpa [bne] using e0) (by simpa [bne] using e1) (by simpa [bne] using e2) sc sg
  cases sh : sameF G.h H.h
  · rw [← sameGB_5 sh]; exact implSameGround_5 G H w (by simpa [bne] using e0) (by simpa [bne] using e1) (by simpa [bne] using e2) sc sg sh
  · rw [← sameGB_6 e0 e1 e2 sc sg sh]; exact implSameGround_6 G H w (by simpa [bne] using e0) (by simpa [bne] using e1) (by simpa [bne] using e2) sc sg sh
end Go.Proofs.Ytjmekgogaiokpab
