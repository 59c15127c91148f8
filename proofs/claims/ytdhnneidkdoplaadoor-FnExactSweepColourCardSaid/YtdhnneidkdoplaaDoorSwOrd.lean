/- swept with the settled head itself: the program's sweep in order. Condition: the table of math/bits is laid. -/
import Derived.Test.YtdhnneidkdoplaaDoorSwept
namespace Go.Proofs.YtdhnneidkdoplaaDoor
open Go Go.RowKit
set_option linter.unusedSimpArgs false
set_option linter.unusedVariables false

/-- What swept hands back. -/
def sweptV (nx : Gd → Nat → Option Nat) (G : Gd) : Value := if (swp nx G (bitsL (cellsN G))).2.1 = true then .tuple #[.agg (Grd (swp nx G (bitsL (cellsN G))).1), .float .f32 (swp nx G (bitsL (cellsN G))).2.2, .int .i64 0] else .tuple #[.agg (Grd zG), .float .f32 0, .int .i64 4]
theorem swept_any (nx : Gd → Nat → Option Nat) (nf : Nat) (caps : Array Value) (hen : ∀ args w, (callFunc nf args).run Tryd.prog w = .ok (.enter nf args) w) (w : World)
    (hnx : ∀ (H : Gd) (k : Nat) (V : World), k < 64 → isB H k = true → validB H = true → GdOk H → GBox V w.heap.size H → Below w.heap.size w V →
      Calls Tryd.prog nf (#[.pointer (some ⟨w.heap.size, 0, none⟩), .int .i64 k] ++ caps) V fun e V' => ∃ b, e = .returned (.float .f32 b) ∧ num .f32 b = nx H k ∧ Below V.heap.size V V')
    (G : Gd) (hv : validB G = true) (hG : GdOk G) (hT : TabAt w) :
    Calls Tryd.prog 75 #[.agg (Grd G), .func (.func nf) #[] caps] w fun e w' => e = .returned (sweptV nx G) ∧ Below w.heap.size w w' := by
  cases ho : (swp nx G (bitsL (cellsN G))).2.1
  · rw [show sweptV nx G = .tuple #[.agg (Grd zG), .float .f32 0, .int .i64 4] by simp [sweptV, ho]]
    exact swept_no nx nf caps hen w hnx G hv hG hT ho
  · rw [show sweptV nx G = .tuple #[.agg (Grd (swp nx G (bitsL (cellsN G))).1), .float .f32 (swp nx G (bitsL (cellsN G))).2.2, .int .i64 0] by simp [sweptV, ho]]
    exact swept_yes nx nf caps hen w hnx G hv hG hT ho

theorem sweptOrder_any (G : Gd) (w : World) (hv : validB G = true) (hG : GdOk G) (hT : TabAt w) :
    Calls Tryd.prog 75 #[.agg (Grd G), .func (.func 65) #[] #[]] w fun e w' => e = .returned (sweptV headO G) ∧ Below w.heap.size w w' :=
  swept_any headO 65 #[] (enters_of Tryd.func65 (by kernel_rfl) rfl) w
    (fun H k V hk _ hvH hGH hB _ => (implHead_any H k hk hvH w.heap.size V hB.at' hB.lt hGH).mono fun e V' ⟨b, h1, h2, h3⟩ => ⟨b, h1, h2, h3⟩) G hv hG hT
theorem results_gfn {P : Program} {fn : Func} {p q r : Tmp} {ty : TypeId} {D : TypeDesc} (h : fn.results = #[.cell p ty, .tmp q, .tmp r]) (tmps : Array Value) (w : World) (b : Nat) (G : Gd) (m : Nat) (n : Int)
    (hp : tmps.getD p undef = .pointer (some ⟨b, 0, none⟩)) (hq : tmps.getD q undef = .float .f32 m) (hr : tmps.getD r undef = .int .i64 n) (hc : w.rangeAt b 0 (GrdL G))
    (hu : P.underlying ty = some D) (hd : D.isRow = true) (hi : (P.info? ty).map (·.size) = some 195) :
    (results fn tmps).run P w = .ok (.tuple #[.agg (Grd G), .float .f32 m, .int .i64 n]) w := by
  have hp' : tmps[p]?.getD undef = .pointer (some ⟨b, 0, none⟩) := by simpa using hp
  have hq' : tmps[q]?.getD undef = .float .f32 m := by simpa using hq
  have hr' : tmps[r]?.getD undef = .int .i64 n := by simpa using hr
  have := run_loadVar_mid (P := P) w b 0 ty (GrdL G) D hc hu hd (by rw [GrdL_length]; exact hi)
  simp [results, h, hp', hq', hr', asAddr, this, Grd]

/-- What the sweep in order hands back. -/
def ordV (G : Gd) : Value := if validB G = true then sweptV headO G else .tuple #[.agg (Grd zG), .float .f32 0, .int .i64 1]
theorem sweptV_is (nx : Gd → Nat → Option Nat) (G : Gd) : ∃ (A : Gd) (m : Nat) (n : Int), sweptV nx G = .tuple #[.agg (Grd A), .float .f32 m, .int .i64 n] := by
  unfold sweptV
  split
  · exact ⟨_, _, _, rfl⟩
  · exact ⟨_, _, _, rfl⟩

set_option maxRecDepth 100000 in
set_option maxHeartbeats 1000000 in
theorem implOrder_any (G : Gd) (w : World) (hG : GdOk G) (hT : TabAt w) :
    Calls Tryd.prog 38 #[.agg (Grd G)] w fun e w' => e = .returned (ordV G) ∧ Below w.heap.size w w' := by
  obtain ⟨EV, hE⟩ : ∃ v, ordV G = v := ⟨_, rfl⟩
  rw [hE]
  have hz := (zero_of_info zeroGround).1
  go_enter Tryd.func38, Tryd.ntmps38
  go_upto_region 1 with (fail)
  obtain ⟨W, hW, zW, g1, g2, hB⟩ := gbox2 G zG 32 32 w
  rw [hW]
  clear hW
  have r1 := g1.range
  have tt := g2.there
  have G1 := Lib.hid g1
  have G2 := Lib.hid g2
  have HB := Lib.hid hB
  have HG := Lib.hid hG
  have TW := Lib.hid (hT.below hB (tab_lt hT))
  have hl : w.heap.size + 1 < W.heap.size := by omega
  clear zW g1 g2 hB hG hT
  cases hv : validB G
  · have Hv := Lib.hid hv
    have HE := Lib.hid (show EV = .tuple #[.agg (Grd zG), .float .f32 0, .int .i64 1] by rw [← hE]; simp [ordV, hv])
    clear hv hE
    go_upto_region 2 with (first | (refine ld_stage 32 rfl ?_; refine wpList_load_mid rfl 32 _ rfl (w.heap.size) 0 rfl (GrdL (G)) _ r1 Tryd.underlying32 rfl (by rw [GrdL_length]; exact infoGround) ?_) | (go_at_call 67; have hc := (validGround_any G W HG.out TW.out (tab_lt TW.out)); rw [Hv.out] at hc; refine hc.mono ?_; clear hc; rintro e V ⟨rfl, hb1⟩))
    have P2 := Lib.hid (G2.out.below hb1 hl)
    have B1 := Lib.hid (HB.out.trans (hb1.mono (by omega)))
    have tt := P2.out.there
    clear r1 hb1
    go_wp2_with (refine st_stage 32 rfl ?_; refine wpList_store_mid rfl 32 _ _ rfl _ 0 (Grd (zG)) rfl rfl (by rw [Grd_size]; with_reducible exact tt) (by rw [Grd_size]; exact infoGround) (Grd_one _) ?_)
    refine bodyPost_ret (results_gfn rfl _ _ _ zG 0 1 rfl rfl rfl P2.out.store.range Tryd.underlying32 rfl infoG195) rfl ⟨by rw [HE.out], below_setCells _ (by omega) _ _ _ B1.out⟩
  · have Hv := Lib.hid hv
    obtain ⟨A, m, n, hA⟩ := sweptV_is headO G
    have HA := Lib.hid hA
    have HE := Lib.hid (show EV = .tuple #[.agg (Grd A), .float .f32 m, .int .i64 n] by rw [← hE, ← hA]; simp [ordV, hv])
    clear hv hE hA
    go_upto_region 3 with (first | (refine ld_stage 32 rfl ?_; refine wpList_load_mid rfl 32 _ rfl (w.heap.size) 0 rfl (GrdL (G)) _ r1 Tryd.underlying32 rfl (by rw [GrdL_length]; exact infoGround) ?_) | (go_at_call 67; have hc := (validGround_any G W HG.out TW.out (tab_lt TW.out)); rw [Hv.out] at hc; refine hc.mono ?_; clear hc; rintro e V ⟨rfl, hb1⟩))
    have r2 := range_kept r1 (by omega) _ hb1
    have P2 := Lib.hid (G2.out.below hb1 hl)
    have TV := Lib.hid (TW.out.below hb1 (tab_lt TW.out))
    have B1 := Lib.hid (HB.out.trans (hb1.mono (by omega)))
    have hlV := hb1.size
    clear r1 hb1 tt
    go_wp2_with (first | (refine ld_stage 32 rfl ?_; refine wpList_load_mid rfl 32 _ rfl (w.heap.size) 0 rfl (GrdL (G)) _ r2 Tryd.underlying32 rfl (by rw [GrdL_length]; exact infoGround) ?_) | (go_at_call 75; have hc := sweptOrder_any G V Hv.out HG.out TV.out; rw [HA.out] at hc; refine hc.mono ?_; clear hc; rintro e Z ⟨rfl, hb2⟩; have P3 := Lib.hid (P2.out.below hb2 (by omega)); have B3 := Lib.hid (B1.out.trans (hb2.mono (by omega))); have tz := P3.out.there; clear hb2) | (refine st_stage 32 rfl ?_; refine wpList_store_mid rfl 32 _ _ rfl _ 0 (Grd A) rfl rfl (by rw [Grd_size]; with_reducible exact tz) (by rw [Grd_size]; exact infoGround) (Grd_one _) ?_))
    refine bodyPost_ret (results_gfn rfl _ _ _ A m n rfl rfl rfl P3.out.store.range Tryd.underlying32 rfl infoG195) rfl ⟨by rw [HE.out], below_setCells _ (by omega) _ _ _ B3.out⟩
end Go.Proofs.YtdhnneidkdoplaaDoor
