/- CellAt, BesideCell, CellsOf: the model's and the program's. Condition (the program's): the table of math/bits is laid. -/
import Derived.Test.YtljbppladjnadaaDoorChkI
namespace Go.Proofs.YtljbppladjnadaaDoor
open Go.RowKit
set_option linter.unusedSimpArgs false

/-- Two numbers, as a result. -/
def II (a b : Int) : Value := .tuple #[.int .i64 a, .int .i64 b]
theorem ret_II {a b c d : Int} (h1 : a = c) (h2 : b = d) : Ending.returned (.tuple #[.int .i64 a, .int .i64 b]) = .returned (II c d) := by rw [h1, h2]; rfl

def cellAtN (G : Gd) (x y : Int) : Int × Int := if validB G = true then (if holdB G x y = true then (x + 8 * y, 0) else (0, 2)) else (0, 1)
set_option maxRecDepth 100000 in
set_option maxHeartbeats 1000000 in
theorem specCellAt_any (G : Gd) (x y : Int) (w : World) (hG : GdOk G) :
    Calls Tryd.prog 18 #[.agg (Grd G), .int .i64 x, .int .i64 y] w fun e w' => e = .returned (II (cellAtN G x y).1 (cellAtN G x y).2) ∧ Below w.heap.size w w' := by
  go_enter Tryd.func18, Tryd.ntmps18
  go_upto_region 1 with (fail)
  obtain ⟨W, hW, hs, g1, hB⟩ := gbox1 G 31 w
  rw [hW]
  clear hW
  have G1 := Lib.hid g1
  have HB := Lib.hid hB
  have HG := Lib.hid hG
  obtain ⟨k0, k0'⟩ := hG.wide'
  obtain ⟨k1, k1'⟩ := hG.high'
  clear g1 hB hs hG
  cases hv : validB G
  · have Hv := Lib.hid hv
    have R := Lib.hid (show cellAtN G x y = (0, 1) by simp [cellAtN, hv])
    clear hv
    go_wp2_with (go_at_call 43; have hc := (l01Ok_any G _ _ G1.out.at' HG.out); rw [Hv.out] at hc; refine hc.mono ?_; clear hc; rintro e w' ⟨rfl, n, rfl⟩)
    go_ret2
    exact ⟨ret_II (by rw [R.out]) (by rw [R.out]), HB.out.trans (Quiet.below ⟨n, rfl⟩ _)⟩
  · obtain ⟨v1, v2, v3, v4⟩ := valid_ext hv
    have Hv := Lib.hid hv
    clear hv
    have A0 := Lib.hid (fun n => (Quiet.grd (w1 := World.drewN W n) ⟨n, rfl⟩ G1.out.at').wide)
    have A1 := Lib.hid (fun n => (Quiet.grd (w1 := World.drewN W n) ⟨n, rfl⟩ G1.out.at').high)
    rw [Nat.zero_add] at A1
    have R : Hid (cellAtN G x y = if holdB G x y = true then (x + 8 * y, 0) else (0, 2)) := Lib.hid (by simp [cellAtN, Hv.out])
    have hh : holdB G x y = ((decide (0 ≤ x) && decide (x ≤ G.wide - 1)) && (decide (0 ≤ y) && decide (y ≤ G.high - 1))) := by
      rw [Bool.eq_iff_iff]
      simp only [holdB, Bool.and_eq_true, decide_eq_true_eq]
      constructor
      · rintro ⟨h1, h2, h3, h4⟩; exact ⟨⟨h1, by omega⟩, h3, by omega⟩
      · rintro ⟨⟨h1, h2⟩, h3, h4⟩; exact ⟨h1, by omega, h3, by omega⟩
    have tk : True := trivial
    cases b1 : (decide (0 ≤ x) && decide (x ≤ G.wide - 1))
    · have B1 := Lib.hid b1
      have Hh := Lib.hid (show holdB G x y = false by rw [hh, b1]; rfl)
      clear b1 hh
      go_wp2_with (first | (go_at_call 43; have hc := (l01Ok_any G _ _ G1.out.at' HG.out); rw [Hv.out] at hc; refine hc.mono ?_; clear hc; rintro e w' ⟨rfl, n, rfl⟩; have q0 := A0.out n; have q1 := A1.out n) | (have _t := tk; go_at_call 49; have hc := (l00In_any (x) (0) (G.wide - 1) (World.drewN W n)); rw [B1.out] at hc; refine hc.mono ?_; clear hc; rintro e w' ⟨rfl, rfl⟩; clear tk))
      go_ret2
      exact ⟨ret_II (by rw [R.out, Hh.out]; rfl) (by rw [R.out, Hh.out]; rfl), HB.out.trans (Quiet.below ⟨_, rfl⟩ _)⟩
    · cases b2 : (decide (0 ≤ y) && decide (y ≤ G.high - 1))
      · have B1 := Lib.hid b1
        have B2 := Lib.hid b2
        have Hh := Lib.hid (show holdB G x y = false by rw [hh, b1, b2]; rfl)
        clear b1 b2 hh
        go_wp2_with (first | (go_at_call 43; have hc := (l01Ok_any G _ _ G1.out.at' HG.out); rw [Hv.out] at hc; refine hc.mono ?_; clear hc; rintro e w' ⟨rfl, n, rfl⟩; have q0 := A0.out n; have q1 := A1.out n) | (have _t := tk; go_at_call 49; have hc := (l00In_any (x) (0) (G.wide - 1) (World.drewN W n)); rw [B1.out] at hc; refine hc.mono ?_; clear hc; rintro e w' ⟨rfl, rfl⟩; clear tk) | (go_at_call 49; have hc := (l00In_any (y) (0) (G.high - 1) (World.drewN W n)); rw [B2.out] at hc; refine hc.mono ?_; clear hc; rintro e w' ⟨rfl, rfl⟩))
        go_ret2
        exact ⟨ret_II (by rw [R.out, Hh.out]; rfl) (by rw [R.out, Hh.out]; rfl), HB.out.trans (Quiet.below ⟨_, rfl⟩ _)⟩
      · have B1 := Lib.hid b1
        have B2 := Lib.hid b2
        have Hh := Lib.hid (show holdB G x y = true by rw [hh, b1, b2]; rfl)
        simp only [Bool.and_eq_true, decide_eq_true_eq] at b1 b2
        obtain ⟨c1, c2⟩ := b1
        obtain ⟨c3, c4⟩ := b2
        clear hh
        go_wp2_with (first | (go_at_call 43; have hc := (l01Ok_any G _ _ G1.out.at' HG.out); rw [Hv.out] at hc; refine hc.mono ?_; clear hc; rintro e w' ⟨rfl, n, rfl⟩; have q0 := A0.out n; have q1 := A1.out n) | (have _t := tk; go_at_call 49; have hc := (l00In_any (x) (0) (G.wide - 1) (World.drewN W n)); rw [B1.out] at hc; refine hc.mono ?_; clear hc; rintro e w' ⟨rfl, rfl⟩; clear tk) | (go_at_call 49; have hc := (l00In_any (y) (0) (G.high - 1) (World.drewN W n)); rw [B2.out] at hc; refine hc.mono ?_; clear hc; rintro e w' ⟨rfl, rfl⟩))
        go_ret2
        exact ⟨ret_II (by rw [R.out, Hh.out]; rfl) (by rw [R.out, Hh.out]; rfl), HB.out.trans (Quiet.below ⟨_, rfl⟩ _)⟩

set_option maxRecDepth 100000 in
set_option maxHeartbeats 1000000 in
theorem implCellAt_any (G : Gd) (x y : Int) (w : World) (hG : GdOk G) (hT : TabAt w) :
    Calls Tryd.prog 19 #[.agg (Grd G), .int .i64 x, .int .i64 y] w fun e w' => e = .returned (II (cellAtN G x y).1 (cellAtN G x y).2) ∧ Below w.heap.size w w' := by
  go_enter Tryd.func19, Tryd.ntmps19
  go_upto_region 1 with (fail)
  obtain ⟨W, hW, hs, g1, hB, hT1⟩ := box_in G 31 w hT
  rw [hW]
  clear hW
  have r1 := g1.range
  have G1 := Lib.hid g1
  have HB := Lib.hid hB
  have HG := Lib.hid hG
  have HT := Lib.hid hT1
  have Hs := Lib.hid hs
  clear g1 hB hs hG hT hT1
  cases hv : validB G
  · have Hv := Lib.hid hv
    have R := Lib.hid (show cellAtN G x y = (0, 1) by simp [cellAtN, hv])
    clear hv
    go_wp2_with (first | (refine wpList_load_mid rfl 31 _ rfl w.heap.size 0 rfl (GrdL G) _ r1 Tryd.underlying31 rfl (by rw [GrdL_length]; exact infoGround) ?_) | (go_at_call 17; have hc := (validGround_any G W HG.out HT.out (tab_lt HT.out)); rw [Hv.out] at hc; refine hc.mono ?_; clear hc; rintro e w1 ⟨rfl, hb1⟩))
    go_ret2
    exact ⟨ret_II (by rw [R.out]) (by rw [R.out]), HB.out.trans (hb1.mono (by have := Hs.out; omega))⟩
  · obtain ⟨v1, v2, v3, v4⟩ := valid_ext hv
    have Hv := Lib.hid hv
    have R : Hid (cellAtN G x y = if holdB G x y = true then (x + 8 * y, 0) else (0, 2)) := Lib.hid (by simp [cellAtN, hv])
    clear hv
    go_upto_region 3 with (first | (refine wpList_load_mid rfl 31 _ rfl w.heap.size 0 rfl (GrdL G) _ r1 Tryd.underlying31 rfl (by rw [GrdL_length]; exact infoGround) ?_) | (go_at_call 17; have hc := (validGround_any G W HG.out HT.out (tab_lt HT.out)); rw [Hv.out] at hc; refine hc.mono ?_; clear hc; rintro e w1 ⟨rfl, hb1⟩))
    have hs := Hs.out
    have z1 := hb1.size
    have g1 := Lib.hid (G1.out.below hb1 (by omega))
    have B1 := Lib.hid (HB.out.trans (hb1.mono (by omega)))
    clear hb1 r1 HT
    go_upto_region 4 with (fail)
    obtain ⟨V, hV⟩ : ∃ V, w1.alloc (.cells #[.int .i64 x, .int .i64 y] 67) = V := ⟨_, rfl⟩
    have hbV : Below w1.heap.size w1 V := by rw [← hV]; exact (Below.refl _ _).alloc (Nat.le_refl _) _
    have zV : V.heap.size = w1.heap.size + 1 := by rw [← hV]; simp
    have x0 : V.cell? ⟨w1.heap.size, 0, none⟩ = some (.int .i64 x) := by rw [← hV]; exact cell_of_row _ _ 0 _ _ _ (heap_alloc_last w1 _)
    have x1 : V.cell? ⟨w1.heap.size, 1, none⟩ = some (.int .i64 y) := by rw [← hV]; exact cell_of_row _ _ 1 _ _ _ (heap_alloc_last w1 _)
    have g2 := Lib.hid (g1.out.below hbV (by omega))
    have B2 := Lib.hid (B1.out.trans (hbV.mono (by omega)))
    rw [hV]
    clear hV hbV
    cases hh : holdB G x y
    · have Hh := Lib.hid hh
      clear hh
      go_wp2_with (go_at_call 50; have hc := (holds_any G x y w.heap.size V g2.out.at' (by omega) HG.out); rw [Hh.out] at hc; refine hc.mono ?_; clear hc; rintro e w2 ⟨rfl, hb2⟩)
      go_ret2
      exact ⟨ret_II (by rw [R.out, Hh.out]; rfl) (by rw [R.out, Hh.out]; rfl), B2.out.trans (hb2.mono (by omega))⟩
    · have Hh := Lib.hid hh
      simp only [holdB, Bool.and_eq_true, decide_eq_true_eq] at hh
      obtain ⟨c1, c2, c3, c4⟩ := hh
      have k2 : ∀ w2, Below V.heap.size V w2 → w2.cell? ⟨w1.heap.size, 0, none⟩ = some (.int .i64 x) ∧ w2.cell? ⟨w1.heap.size, 1, none⟩ = some (.int .i64 y) := fun w2 h => ⟨(h.cell (p := ⟨w1.heap.size, 0, none⟩) (by simp; omega)).trans x0, (h.cell (p := ⟨w1.heap.size, 1, none⟩) (by simp; omega)).trans x1⟩
      have K2 := Lib.hid k2
      clear k2
      go_upto_region 6 with (go_at_call 50; have hc := (holds_any G x y w.heap.size V g2.out.at' (by omega) HG.out); rw [Hh.out] at hc; refine hc.mono ?_; clear hc; rintro e w2 ⟨rfl, hb2⟩)
      obtain ⟨y0, y1⟩ := K2.out w2 hb2
      have B3 := Lib.hid (B2.out.trans (hb2.mono (by omega)))
      have z2 := hb2.size
      clear x0 x1 K2 hb2
      go_wp2_with (go_at_call 51; refine (number_any x y c1 (by omega) c3 (by omega) _).mono ?_; rintro e w3 ⟨rfl, hb3⟩)
      go_ret2
      exact ⟨ret_II (by rw [R.out, Hh.out]; rfl) (by rw [R.out, Hh.out]; rfl), B3.out.trans (hb3.mono (by omega))⟩
end Go.Proofs.YtljbppladjnadaaDoor
