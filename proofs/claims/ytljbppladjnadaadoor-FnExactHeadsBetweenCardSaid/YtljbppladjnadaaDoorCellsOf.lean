/- CellsOf, WithFixed: the model's and the program's. Condition (the program's): the table of math/bits is laid. -/
import Derived.Test.YtljbppladjnadaaDoorWith
namespace Go.Proofs.YtljbppladjnadaaDoor
open Go.RowKit
set_option linter.unusedSimpArgs false

/-- Bits and a number, as a result. -/
def UI (a b : Int) : Value := .tuple #[.int .u64 a, .int .i64 b]
theorem ret_UI {a b c d : Int} (h1 : a = c) (h2 : b = d) : Ending.returned (.tuple #[.int .u64 a, .int .i64 b]) = .returned (UI c d) := by rw [h1, h2]; rfl

def cellsOfN (G : Gd) : Int × Int := if validB G = true then ((cellsN G : Int), 0) else (0, 1)

set_option maxRecDepth 100000 in
set_option maxHeartbeats 1000000 in
theorem specCellsOf_any (G : Gd) (w : World) (hG : GdOk G) :
    Calls Tryd.prog 22 #[.agg (Grd G)] w fun e w' => e = .returned (UI (cellsOfN G).1 (cellsOfN G).2) ∧ Below w.heap.size w w' := by
  go_enter Tryd.func22, Tryd.ntmps22
  go_upto_region 1 with (fail)
  obtain ⟨W, hW, hs, g1, hB⟩ := gbox1 G 31 w
  rw [hW]
  clear hW
  have G1 := Lib.hid g1
  have HB := Lib.hid hB
  have HG := Lib.hid hG
  clear g1 hB hs hG
  cases hv : validB G
  · have Hv := Lib.hid hv
    have R := Lib.hid (show cellsOfN G = (0, 1) by simp [cellsOfN, hv])
    clear hv
    go_wp2_with (go_at_call 43; have hc := (l01Ok_any G _ _ G1.out.at' HG.out); rw [Hv.out] at hc; refine hc.mono ?_; clear hc; rintro e w' ⟨rfl, n, rfl⟩)
    go_ret2
    exact ⟨ret_UI (by rw [R.out]) (by rw [R.out]), HB.out.trans (Quiet.below ⟨n, rfl⟩ _)⟩
  · have Hv := Lib.hid hv
    have R := Lib.hid (show cellsOfN G = ((cellsN G : Int), 0) by simp [cellsOfN, hv])
    clear hv
    go_wp2_with (first | (go_at_call 43; have hc := (l01Ok_any G _ _ G1.out.at' HG.out); rw [Hv.out] at hc; refine hc.mono ?_; clear hc; rintro e w' ⟨rfl, n, rfl⟩) | (go_at_call 56; refine (l01Cells_any G _ _ (Quiet.grd ⟨n, rfl⟩ G1.out.at') HG.out).mono ?_; rintro e w' ⟨rfl, h⟩; obtain rfl := h))
    go_ret2
    exact ⟨ret_UI (by rw [R.out]) (by rw [R.out]), HB.out.trans (Quiet.below ⟨n, rfl⟩ _)⟩

/-- The program's cells, of a valid ground. -/
theorem cells_valid (G : Gd) (hv : validB G = true) (p : Nat) (w : World) (hp : GrdAt w p 0 G) :
    Calls Tryd.prog 45 #[.pointer (some ⟨p, 0, none⟩)] w fun e w' => e = .returned (.int .u64 (cellsN G)) ∧ w = w' := by
  obtain ⟨v1, v2, v3, v4⟩ := valid_ext hv
  exact cells_any G G.wide.toNat G.high.toNat (by omega) (by omega) (by omega) (by omega) p w hp

set_option maxRecDepth 100000 in
set_option maxHeartbeats 1000000 in
theorem implCellsOf_any (G : Gd) (w : World) (hG : GdOk G) (hT : TabAt w) :
    Calls Tryd.prog 23 #[.agg (Grd G)] w fun e w' => e = .returned (UI (cellsOfN G).1 (cellsOfN G).2) ∧ Below w.heap.size w w' := by
  go_enter Tryd.func23, Tryd.ntmps23
  go_upto_region 1 with (fail)
  obtain ⟨W, hW, hs, g1, hB, hT1⟩ := box_in G 31 w hT
  rw [hW]
  clear hW
  have r1 := g1.range
  have G1 := Lib.hid g1
  have HB := Lib.hid hB
  have HG := Lib.hid hG
  have HT := Lib.hid hT1
  have Hs := Lib.hid hs
  clear g1 hB hs hG hT hT1
  cases hv : validB G
  · have Hv := Lib.hid hv
    have R := Lib.hid (show cellsOfN G = (0, 1) by simp [cellsOfN, hv])
    clear hv
    go_wp2_with (first | (refine wpList_load_mid rfl 31 _ rfl w.heap.size 0 rfl (GrdL G) _ r1 Tryd.underlying31 rfl (by rw [GrdL_length]; exact infoGround) ?_) | (go_at_call 17; have hc := (validGround_any G W HG.out HT.out (tab_lt HT.out)); rw [Hv.out] at hc; refine hc.mono ?_; clear hc; rintro e w1 ⟨rfl, hb1⟩))
    go_ret2
    exact ⟨ret_UI (by rw [R.out]) (by rw [R.out]), HB.out.trans (hb1.mono (by have := Hs.out; omega))⟩
  · have Hv := Lib.hid hv
    have R := Lib.hid (show cellsOfN G = ((cellsN G : Int), 0) by simp [cellsOfN, hv])
    clear hv
    go_wp2_with (first | (refine wpList_load_mid rfl 31 _ rfl w.heap.size 0 rfl (GrdL G) _ r1 Tryd.underlying31 rfl (by rw [GrdL_length]; exact infoGround) ?_) | (go_at_call 17; have hc := (validGround_any G W HG.out HT.out (tab_lt HT.out)); rw [Hv.out] at hc; refine hc.mono ?_; clear hc; rintro e w1 ⟨rfl, hb1⟩) | (go_at_call 45; refine (cells_valid G Hv.out _ _ (G1.out.at'.below hb1 (by have := Hs.out; omega))).mono ?_; rintro e w2 ⟨rfl, rfl⟩))
    go_ret2
    exact ⟨ret_UI (by rw [R.out]) (by rw [R.out]), HB.out.trans (hb1.mono (by have := Hs.out; omega))⟩
end Go.Proofs.YtljbppladjnadaaDoor
