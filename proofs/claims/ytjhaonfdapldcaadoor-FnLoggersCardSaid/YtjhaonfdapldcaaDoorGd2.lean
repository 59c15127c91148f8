/- A ground and a cell, drawn out of bytes. No condition of its own. -/
import Derived.Test.YtjhaonfdapldcaaDoorGd
namespace Go.Proofs.YtjhaonfdapldcaaDoor
open Go Go.RowKit Ieee
set_option linter.unusedSimpArgs false
set_option linter.unusedVariables false
attribute [local go_sem] run_store_float Oper.semAt_some

set_option maxRecDepth 100000 in
set_option maxHeartbeats 2000000 in
theorem A2Ground_any (p : Option Addr) (n c : Nat) (hn : n ≤ maxLen) (w : World) (h : BytesAt w w.heap.size p n) :
    Calls Tryd.prog 14 #[.slice p n c] w fun e w' => (∃ G, e = .returned (.agg (Grd G)) ∧ Drw G) ∧ Below w.heap.size w w' := by
  have hz := (zero_of_info zeroGround).1
  go_enter Tryd.func14, Tryd.ntmps14
  go_upto_region 1 with (fail)
  obtain ⟨W, hW, zW, gW, bW⟩ := gbox1 zG 32 w
  rw [hW]
  have T0 := Lib.hid (l00FromG_any p n c hn W (h.atG bW))
  have GR := Lib.hid gW
  have BW := Lib.hid bW
  have ZW := Lib.hid zW
  clear hW h gW bW zW hz
  go_wp2_with (first
    | (go_at_call 39; refine T0.out.mono ?_; rintro e V1 ⟨rfl, hb1, hz1, hs1⟩; have B1 := Lib.hid hb1; have S1 := Lib.hid hs1; clear hb1 hz1 hs1 T0)
    | (go_at_call 38; refine (l01Drawn_any _ _ S1.out).mono ?_; rintro e V2 ⟨⟨G, rfl, hD⟩, hf, hs2⟩; have DD := Lib.hid hD; have B2 := Lib.hid (B1.out.trans hf.1); have GV := Lib.hid (GR.out.below (B2.out.mono (Nat.le_refl _)) (by have := ZW.out; omega)); clear hD hf hs2 B1 S1)
    | (refine st_stage 32 rfl ?_; refine wpList_store_mid rfl 32 _ _ rfl w.heap.size 0 (Grd G) rfl rfl (by rw [Grd_size]; exact GV.out.there) (by rw [Grd_size]; exact infoGround) (Grd_one _) ?_))
  refine bodyPost_ret (results_aggG rfl _ _ w.heap.size (Grd G) rfl (GV.out.store (H := G)).range Tryd.underlying32 rfl (by rw [Grd_toList, GrdL_length]; exact infoGround)) rfl ⟨⟨G, rfl, DD.out⟩, ?_⟩
  exact below_setCells _ (Nat.le_refl _) _ _ _ (BW.out.trans (B2.out.mono (by have := ZW.out; omega)))
theorem cell_isB {G : Gd} {x y : Nat} (hx : (x : Int) < G.wide) (hy : (y : Int) < G.high) (hw : G.wide ≤ 8) (hh : G.high ≤ 8) : isB G (x + 8 * y) = true ∧ x + 8 * y < 64 := by
  have e1 : (x + 8 * y) % 8 = x := by omega
  have e2 : (x + 8 * y) / 8 = y := by omega
  refine ⟨?_, by omega⟩
  unfold isB
  rw [e1, e2]
  simp [hx, hy]

set_option maxRecDepth 100000 in
set_option maxHeartbeats 2000000 in
theorem A2Cell_any (G : Gd) (hv : 2 ≤ G.wide ∧ G.wide ≤ 8 ∧ 2 ≤ G.high ∧ G.high ≤ 8) (p : Option Addr) (n c : Nat) (hn : n ≤ maxLen) (w : World) (h : BytesAt w w.heap.size p n) :
    Calls Tryd.prog 15 #[.slice p n c, .agg (Grd G)] w fun e w' => (∃ k : Nat, k < 64 ∧ isB G k = true ∧ e = .returned (.int .i64 (k : Int))) ∧ Below w.heap.size w w' := by
  obtain ⟨a, ha⟩ : ∃ a : Nat, G.wide = a := ⟨G.wide.toNat, by omega⟩
  obtain ⟨b, hb⟩ : ∃ b : Nat, G.high = b := ⟨G.high.toNat, by omega⟩
  have hab : (a : Int) ≤ 8 ∧ (b : Int) ≤ 8 ∧ 2 ≤ a ∧ 2 ≤ b := by omega
  have HA := Lib.hid ha
  have HB := Lib.hid hb
  go_enter Tryd.func15, Tryd.ntmps15
  go_upto_region 1 with (fail)
  obtain ⟨W, hW, zW, gW, bW⟩ := gbox1 G 32 w
  rw [hW]
  have T0 := Lib.hid (l00FromG_any p n c hn W (h.atG bW))
  have c0 := gW.at'.wide
  have c1 := gW.at'.high
  rw [ha] at c0
  rw [hb, Nat.zero_add] at c1
  have BW := Lib.hid bW
  have ZW := Lib.hid zW
  have hlw : w.heap.size < W.heap.size := by omega
  have C0 := Lib.hid c0
  have C1 := Lib.hid c1
  clear hW h gW bW zW hv ha hb c0 c1
  have t1 : True := trivial
  go_wp2_with (first
    | (go_at_call 39; refine T0.out.mono ?_; rintro e V1 ⟨rfl, hb1, hz1, hs1⟩; have B1 := Lib.hid hb1; have S1 := Lib.hid hs1; have c0 := (hb1.cell (p := ⟨w.heap.size, 0, none⟩) hlw).trans C0.out; clear hb1 hz1 hs1 T0)
    | (have _t := t1; go_at_call 40; refine (pick_any _ 0 a (by omega) (by omega) (by omega) _ S1.out).mono ?_; rintro e V2 ⟨⟨x, hx, rfl⟩, hb1, hz1, hs1⟩; have B2 := Lib.hid (B1.out.trans hb1.1); have S2 := Lib.hid hs1; have c1 := (B2.out.cell (p := ⟨w.heap.size, 1, none⟩) hlw).trans C1.out; clear hb1 hz1 hs1 c0 t1)
    | (go_at_call 40; refine (pick_any _ 2 b (by omega) (by omega) (by omega) _ S2.out).mono ?_; rintro e V3 ⟨⟨y, hy, rfl⟩, hb1, hz1, hs1⟩; have B3 := Lib.hid (B2.out.trans hb1.1); have hxy : (x : Int) < a ∧ (y : Int) < b := (by omega); clear hb1 hz1 hs1))
  go_ret
  have hc := cell_isB (G := G) (x := x) (y := y) (by rw [HA.out]; omega) (by rw [HB.out]; omega) (by rw [HA.out]; omega) (by rw [HB.out]; omega)
  exact ⟨⟨x + 8 * y, hc.2, hc.1, by simp⟩, BW.out.trans (B3.out.mono (by omega))⟩

set_option maxRecDepth 100000 in
set_option maxHeartbeats 2000000 in
theorem a2Long_any (p q : Option Addr) (n m c d : Nat) (hn : n ≤ maxLen) (hm : m ≤ maxLen) (w : World) : Calls Tryd.prog 13 #[.slice p n c, .slice q m d] w fun e w' => e = .returned (.bool (decide (3000 < n) || decide (3000 < m))) ∧ w' = w := by
  unfold maxLen at hn hm
  by_cases h1 : 3000 < n
  · have h1i : (3000 : Int) < n := by omega
    rw [show (decide (3000 < n) || decide (3000 < m)) = true by simp [h1]]
    go_enter Tryd.func13, Tryd.ntmps13
    go_wp2
    go_ret
    exact ⟨rfl, rfl⟩
  · have h1i : ¬ (3000 : Int) < n := by omega
    by_cases h2 : 3000 < m
    · have h2i : (3000 : Int) < m := by omega
      rw [show (decide (3000 < n) || decide (3000 < m)) = true by simp [h2]]
      go_enter Tryd.func13, Tryd.ntmps13
      go_wp2
      go_ret
      exact ⟨rfl, rfl⟩
    · have h2i : ¬ (3000 : Int) < m := by omega
      rw [show (decide (3000 < n) || decide (3000 < m)) = false by simp [h1, h2]]
      go_enter Tryd.func13, Tryd.ntmps13
      go_wp2
      go_ret
      exact ⟨rfl, rfl⟩
end Go.Proofs.YtjhaonfdapldcaaDoor
