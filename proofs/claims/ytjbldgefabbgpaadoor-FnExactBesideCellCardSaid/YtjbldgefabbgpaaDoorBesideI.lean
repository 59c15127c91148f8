/- BesideCell: the program's. WithFixed: the model's and the program's. Condition (the program's): the table of math/bits is laid. -/
import Derived.Test.YtjbldgefabbgpaaDoorCell
namespace Go.Proofs.YtjbldgefabbgpaaDoor
open Go.RowKit
set_option linter.unusedSimpArgs false

set_option maxRecDepth 100000 in
set_option maxHeartbeats 1000000 in
theorem implBesideCell_any (G : Gd) (c s : Int) (w : World) (hG : GdOk G) (l1 : -9223372036854775808 ≤ c) (l2 : c ≤ 9223372036854775807) (hT : TabAt w) :
    Calls Tryd.prog 20 #[.agg (Grd G), .int .i64 c, .int .i64 s] w fun e w' => e = .returned (II (besideCellN G c s).1 (besideCellN G c s).2) ∧ Below w.heap.size w w' := by
  go_enter Tryd.func20, Tryd.ntmps20
  go_upto_region 1 with (fail)
  obtain ⟨W, hW, hs, g1, hB, hT1⟩ := box_in G 32 w hT
  rw [hW]
  clear hW
  have G1 := Lib.hid g1
  have HB := Lib.hid hB
  have HG := Lib.hid hG
  have HT := Lib.hid hT1
  have hn1 : w.heap.size < W.heap.size := by omega
  clear g1 hB hs hG hT hT1
  by_cases ha : sidedN G c s = 0
  · obtain ⟨k, rfl, hk, hv, _, hs⟩ := sided_in ha
    have Ha := Lib.hid ha
    cases hn : nbB G k s
    · have R := Lib.hid (show besideCellN G k s = (0, 6) by simp [besideCellN, ha, hn])
      have N1 := Lib.hid (show IB (if nbB G k s = true then nb k s else 0) (nbB G k s) = IB 0 false by rw [hn]; rfl)
      have Hv := Lib.hid hv
      have HS := Lib.hid hs
      clear ha hn hv hs
      go_wp2_with (first | (go_at_call 54; have hc := (checkSide_any G k s l1 l2 _ W G1.out.at' hn1 HG.out HT.out); rw [Ha.out] at hc; refine hc.mono ?_; clear hc; rintro e w1 ⟨rfl, hb1⟩) | (go_at_call 55; have hc := (beside_any G k hk s HS.out Hv.out _ w1 (G1.out.at'.below hb1 hn1) (by have := hb1.size; omega) HG.out); rw [N1.out] at hc; refine hc.mono ?_; clear hc; rintro e w2 ⟨rfl, hb2⟩; unfold IB))
      go_ret2
      exact ⟨ret_II (by rw [R.out]) (by rw [R.out]), HB.out.trans ((hb1.trans (hb2.mono hb1.size)).mono (by omega))⟩
    · have R := Lib.hid (show besideCellN G k s = (nb k s, 0) by simp [besideCellN, ha, hn])
      have N1 := Lib.hid (show IB (if nbB G k s = true then nb k s else 0) (nbB G k s) = IB (nb k s) true by rw [hn]; rfl)
      have Hv := Lib.hid hv
      have HS := Lib.hid hs
      clear ha hn hv hs
      go_wp2_with (first | (go_at_call 54; have hc := (checkSide_any G k s l1 l2 _ W G1.out.at' hn1 HG.out HT.out); rw [Ha.out] at hc; refine hc.mono ?_; clear hc; rintro e w1 ⟨rfl, hb1⟩) | (go_at_call 55; have hc := (beside_any G k hk s HS.out Hv.out _ w1 (G1.out.at'.below hb1 hn1) (by have := hb1.size; omega) HG.out); rw [N1.out] at hc; refine hc.mono ?_; clear hc; rintro e w2 ⟨rfl, hb2⟩; unfold IB))
      go_ret2
      exact ⟨ret_II (by rw [R.out]) (by rw [R.out]), HB.out.trans ((hb1.trans (hb2.mono hb1.size)).mono (by omega))⟩
  · have hne : (sidedN G c s != 0) = true := by simpa [bne] using ha
    have R := Lib.hid (show besideCellN G c s = (0, sidedN G c s) by simp only [besideCellN, ha, if_false])
    clear ha
    go_wp2_with (go_at_call 54; refine (checkSide_any G c s l1 l2 _ W G1.out.at' hn1 HG.out HT.out).mono ?_; rintro e w1 ⟨rfl, hb1⟩)
    go_ret2
    exact ⟨ret_II (by rw [R.out]) (by rw [R.out]), HB.out.trans (hb1.mono (by omega))⟩
end Go.Proofs.YtjbldgefabbgpaaDoor
