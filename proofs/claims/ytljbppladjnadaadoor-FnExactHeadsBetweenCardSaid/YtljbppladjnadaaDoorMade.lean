/- The model's l01Made and the program's ifValid: a ground with a code. Condition (ifValid): the table of math/bits is laid. -/
import Derived.Test.YtljbppladjnadaaDoorChkS
namespace Go.Proofs.YtljbppladjnadaaDoor
open Go.RowKit
set_option linter.unusedSimpArgs false

/-- The box of a ground that came in by value. -/
theorem box_in (G : Gd) (t : TypeId) (w : World) (hT : TabAt w) : ∃ W, w.alloc (.cells (Grd G) t) = W ∧ W.heap.size = w.heap.size + 1 ∧ GBox W w.heap.size G ∧ Below w.heap.size w W ∧ TabAt W := by
  obtain ⟨W, h, hs, g, hB⟩ := gbox1 G t w
  exact ⟨W, h, hs, g, hB, hT.below hB (tab_lt hT)⟩

/-- A ground and a number, as a result. -/
def GN (G : Gd) (n : Int) : Value := .tuple #[.agg (Grd G), .int .i64 n]

theorem infoG195 : (Tryd.prog.info? 31).map (·.size) = some 195 := infoGround

/-- The end of a function that returns a ground in a block and a number. -/
theorem ret_GN {fn : Func} {p q : Tmp} (h : fn.results = #[.cell p 31, .tmp q]) {tmps : Array Value} {w : World} {b : Nat} {G : Gd} {n : Int}
    (hp : tmps.getD p undef = .pointer (some ⟨b, 0, none⟩)) (hq : tmps.getD q undef = .int .i64 n) (hc : w.rangeAt b 0 (GrdL G)) : (results fn tmps).run Tryd.prog w = .ok (GN G n) w :=
  results_grd_int h tmps w b G n hp hq hc Tryd.underlying31 rfl infoG195

set_option maxRecDepth 100000 in
set_option maxHeartbeats 1000000 in
theorem l01Made_any (G : Gd) (p : Nat) (w : World) (hp : GrdAt w p 0 G) (hpl : p < w.heap.size) (hG : GdOk G) :
    Calls Tryd.prog 59 #[.pointer (some ⟨p, 0, none⟩)] w fun e w' => e = .returned (GN (madeG G) (madeN G)) ∧ Below w.heap.size w w' := by
  have hz := (zero_of_info zeroGround).1
  go_enter Tryd.func59, Tryd.ntmps59
  go_upto_region 1 with (fail)
  obtain ⟨W, hW, hs, g1, hB⟩ := gbox1 zG 31 w
  rw [hW]
  clear hW
  have G1 := Lib.hid g1
  have HB := Lib.hid hB
  have Hs := Lib.hid hs
  have HP := Lib.hid (hp.below hB hpl)
  have HG := Lib.hid hG
  clear g1 hB hs hp hG
  cases hv : validB G
  · have Hv := Lib.hid hv
    have R1 := Lib.hid (show madeG G = zG by simp [madeG, hv])
    have R2 := Lib.hid (show madeN G = 4 by simp [madeN, hv])
    clear hv
    have g2 := fun n => (G1.out.below (Quiet.below ⟨n, rfl⟩ (w.heap.size + 1)) (by omega) : GBox (World.drewN W n) w.heap.size zG)
    go_wp2_with (first | (go_at_call 43; have hc := (l01Ok_any G p _ HP.out HG.out); rw [Hv.out] at hc; refine hc.mono ?_; clear hc; rintro e w' ⟨rfl, n, rfl⟩) | (refine wpList_store_mid rfl 31 _ _ rfl _ 0 (Grd zG) rfl rfl (g2 n).there (by rw [Grd_size]; exact infoGround) (Grd_one zG) ?_))
    refine bodyPost_ret (ret_GN rfl rfl rfl (g2 n).store.range) rfl ⟨by rw [R1.out, R2.out], below_setCells _ (Nat.le_refl _) _ _ _ (HB.out.trans (Quiet.below ⟨n, rfl⟩ _))⟩
  · have Hv := Lib.hid hv
    have R1 := Lib.hid (show madeG G = G by simp [madeG, hv])
    have R2 := Lib.hid (show madeN G = 0 by simp [madeN, hv])
    clear hv
    have g2 := fun n => (G1.out.below (Quiet.below ⟨n, rfl⟩ (w.heap.size + 1)) (by omega) : GBox (World.drewN W n) w.heap.size zG)
    have p2 := fun n => (Quiet.grd (w1 := World.drewN W n) ⟨n, rfl⟩ HP.out).range
    clear hz
    go_wp2_with (first | (go_at_call 43; have hc := (l01Ok_any G p _ HP.out HG.out); rw [Hv.out] at hc; refine hc.mono ?_; clear hc; rintro e w' ⟨rfl, n, rfl⟩) | (refine wpList_load_mid rfl 31 _ rfl p 0 rfl (GrdL G) _ (p2 n) Tryd.underlying31 rfl (by rw [GrdL_length]; exact infoGround) ?_) | (refine wpList_store_mid rfl 31 _ _ rfl _ 0 (Grd G) rfl rfl (by rw [Grd_size]; exact (g2 n).there) (by rw [Grd_size]; exact infoGround) (Grd_one G) ?_))
    refine bodyPost_ret (ret_GN rfl rfl rfl (g2 n).store.range) rfl ⟨by rw [R1.out, R2.out], below_setCells _ (Nat.le_refl _) _ _ _ (HB.out.trans (Quiet.below ⟨n, rfl⟩ _))⟩

set_option maxRecDepth 100000 in
set_option maxHeartbeats 1000000 in
theorem ifValid_any (G : Gd) (w : World) (hG : GdOk G) (hT : TabAt w) :
    Calls Tryd.prog 61 #[.agg (Grd G)] w fun e w' => e = .returned (GN (madeG G) (madeN G)) ∧ Below w.heap.size w w' := by
  have hz := (zero_of_info zeroGround).1
  go_enter Tryd.func61, Tryd.ntmps61
  go_upto_region 1 with (fail)
  obtain ⟨W, hW, hs, g1, g2, hB⟩ := gbox2 G zG 31 31 w
  rw [hW]
  clear hW
  have r1 := g1.range
  have G1 := Lib.hid g1
  have G2 := Lib.hid g2
  have HB := Lib.hid hB
  have Hs := Lib.hid hs
  have HT := Lib.hid (hT.below hB (tab_lt hT))
  have HG := Lib.hid hG
  have hn : w.heap.size + 1 < W.heap.size := by omega
  clear g1 g2 hB hs hG hT
  cases hv : validB G
  · have Hv := Lib.hid hv
    have R1 := Lib.hid (show madeG G = zG by simp [madeG, hv])
    have R2 := Lib.hid (show madeN G = 4 by simp [madeN, hv])
    clear hv
    go_upto_region 2 with (first | (refine wpList_load_mid rfl 31 _ rfl w.heap.size 0 rfl (GrdL G) _ r1 Tryd.underlying31 rfl (by rw [GrdL_length]; exact infoGround) ?_) | (go_at_call 17; have hc := (validGround_any G W HG.out HT.out (tab_lt HT.out)); rw [Hv.out] at hc; refine hc.mono ?_; clear hc; rintro e w1 ⟨rfl, hb1⟩))
    have g3 := Lib.hid (G2.out.below hb1 hn)
    have B1 := Lib.hid (HB.out.trans (hb1.mono (by omega)))
    clear hb1 r1
    go_wp2_with (refine wpList_store_mid rfl 31 _ _ rfl _ 0 (Grd zG) rfl rfl g3.out.there (by rw [Grd_size]; exact infoGround) (Grd_one zG) ?_)
    refine bodyPost_ret (ret_GN rfl rfl rfl g3.out.store.range) rfl ⟨by rw [R1.out, R2.out], below_setCells _ (by omega) _ _ _ B1.out⟩
  · have Hv := Lib.hid hv
    have R1 := Lib.hid (show madeG G = G by simp [madeG, hv])
    have R2 := Lib.hid (show madeN G = 0 by simp [madeN, hv])
    clear hv hz
    go_upto_region 3 with (first | (refine wpList_load_mid rfl 31 _ rfl w.heap.size 0 rfl (GrdL G) _ r1 Tryd.underlying31 rfl (by rw [GrdL_length]; exact infoGround) ?_) | (go_at_call 17; have hc := (validGround_any G W HG.out HT.out (tab_lt HT.out)); rw [Hv.out] at hc; refine hc.mono ?_; clear hc; rintro e w1 ⟨rfl, hb1⟩))
    have g3 := Lib.hid (G2.out.below hb1 hn)
    have r3 := (G1.out.below hb1 (by omega)).range
    have B1 := Lib.hid (HB.out.trans (hb1.mono (by omega)))
    clear hb1 r1
    go_wp2_with (first | (refine wpList_load_mid rfl 31 _ rfl w.heap.size 0 rfl (GrdL G) _ r3 Tryd.underlying31 rfl (by rw [GrdL_length]; exact infoGround) ?_) | (refine wpList_store_mid rfl 31 _ _ rfl _ 0 (Grd G) rfl rfl (by rw [Grd_size]; exact g3.out.there) (by rw [Grd_size]; exact infoGround) (Grd_one G) ?_))
    refine bodyPost_ret (ret_GN rfl rfl rfl g3.out.store.range) rfl ⟨by rw [R1.out, R2.out], below_setCells _ (by omega) _ _ _ B1.out⟩
end Go.Proofs.YtljbppladjnadaaDoor
