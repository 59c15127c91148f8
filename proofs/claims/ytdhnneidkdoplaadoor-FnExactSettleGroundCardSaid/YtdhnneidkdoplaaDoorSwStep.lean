/- The program's StepAtOnce. Condition: the table of math/bits is laid. -/
import Derived.Test.YtdhnneidkdoplaaDoorSwOrd
namespace Go.Proofs.YtdhnneidkdoplaaDoor
open Go Go.RowKit
set_option linter.unusedSimpArgs false
set_option linter.unusedVariables false

set_option maxRecDepth 100000 in
theorem stepNext_any (G : Gd) (k : Nat) (hk : k < 64) (hv : validB G = true) (hG : GdOk G) (q : Value) (b : Nat) (w : World) (hb : GrdAt w b 0 G) (hl : b < w.heap.size) :
    Calls Tryd.prog 76 #[q, .int .i64 k, .pointer (some ⟨b, 0, none⟩)] w fun e w' => ∃ r, e = .returned (.float .f32 r) ∧ num .f32 r = headO G k ∧ Below w.heap.size w w' := by
  have HB := Lib.hid hb
  have HG := Lib.hid hG
  have HV := Lib.hid hv
  clear hb hG hv
  go_enter Tryd.func76, Tryd.ntmps76
  go_wp2_with (go_at_call 65; refine (implHead_any G k hk HV.out b _ HB.out hl HG.out).mono ?_; rintro e V ⟨r, rfl, hr, hq⟩; have HR := Lib.hid hr; clear hr)
  go_ret
  exact ⟨r, rfl, HR.out, hq⟩

theorem sweptStep_any (G : Gd) (b : Nat) (w : World) (hv : validB G = true) (hG : GdOk G) (hT : TabAt w) (hb : GBox w b G) :
    Calls Tryd.prog 75 #[.agg (Grd G), .func (.func 76) #[] #[.pointer (some ⟨b, 0, none⟩)]] w fun e w' => e = .returned (sweptV (fun _ k => headO G k) G) ∧ Below w.heap.size w w' :=
  swept_any (fun _ k => headO G k) 76 #[.pointer (some ⟨b, 0, none⟩)] (enters_of Tryd.func76 (by kernel_rfl) rfl) w
    (fun H k V hk _ _ _ _ hwV => stepNext_any G k hk hv hG _ b V (hb.below hwV hb.lt).at' (Nat.lt_of_lt_of_le hb.lt hwV.size)) G hv hG hT

theorem new_thereG (t : TypeId) (w : World) : (w.alloc (.cells (Grd zG) t)).there w.heap.size 0 195 := there_row (heap_alloc_last w _) (Grd_size zG)

/-- What a step at once hands back. -/
def stepV (G : Gd) : Value := if validB G = true then sweptV (fun _ k => headO G k) G else .tuple #[.agg (Grd zG), .float .f32 0, .int .i64 1]

set_option maxRecDepth 100000 in
set_option maxHeartbeats 1000000 in
theorem implStep_any (G : Gd) (w : World) (hG : GdOk G) (hT : TabAt w) :
    Calls Tryd.prog 36 #[.agg (Grd G)] w fun e w' => e = .returned (stepV G) ∧ Below w.heap.size w w' := by
  obtain ⟨EV, hE⟩ : ∃ v, stepV G = v := ⟨_, rfl⟩
  rw [hE]
  have hz := (zero_of_info zeroGround).1
  go_enter Tryd.func36, Tryd.ntmps36
  go_upto_region 1 with (fail)
  obtain ⟨W, hW, zW, g1, g2, hB⟩ := gbox2 G zG 32 32 w
  rw [hW]
  clear hW
  have r1 := g1.range
  have tt := g2.there
  have G1 := Lib.hid g1
  have G2 := Lib.hid g2
  have HB := Lib.hid hB
  have HG := Lib.hid hG
  have TW := Lib.hid (hT.below hB (tab_lt hT))
  have hl : w.heap.size + 1 < W.heap.size := by omega
  clear zW g1 g2 hB hG hT
  cases hv : validB G
  · have Hv := Lib.hid hv
    have HE := Lib.hid (show EV = .tuple #[.agg (Grd zG), .float .f32 0, .int .i64 1] by rw [← hE]; simp [stepV, hv])
    clear hv hE
    go_upto_region 2 with (first | (refine ld_stage 32 rfl ?_; refine wpList_load_mid rfl 32 _ rfl (w.heap.size) 0 rfl (GrdL (G)) _ r1 Tryd.underlying32 rfl (by rw [GrdL_length]; exact infoGround) ?_) | (go_at_call 67; have hc := (validGround_any G W HG.out TW.out (tab_lt TW.out)); rw [Hv.out] at hc; refine hc.mono ?_; clear hc; rintro e V ⟨rfl, hb1⟩))
    have P2 := Lib.hid (G2.out.below hb1 hl)
    have B1 := Lib.hid (HB.out.trans (hb1.mono (by omega)))
    have tt := P2.out.there
    clear r1 hb1
    go_wp2_with (refine st_stage 32 rfl ?_; refine wpList_store_mid rfl 32 _ _ rfl _ 0 (Grd (zG)) rfl rfl (by rw [Grd_size]; with_reducible exact tt) (by rw [Grd_size]; exact infoGround) (Grd_one _) ?_)
    refine bodyPost_ret (results_gfn rfl _ _ _ zG 0 1 rfl rfl rfl P2.out.store.range Tryd.underlying32 rfl infoG195) rfl ⟨by rw [HE.out], below_setCells _ (by omega) _ _ _ B1.out⟩
  · have Hv := Lib.hid hv
    obtain ⟨A, m, n, hA⟩ := sweptV_is (fun _ k => headO G k) G
    have HA := Lib.hid hA
    have HE := Lib.hid (show EV = .tuple #[.agg (Grd A), .float .f32 m, .int .i64 n] by rw [← hE, ← hA]; simp [stepV, hv])
    clear hv hE hA
    go_upto_region 3 with (first | (refine ld_stage 32 rfl ?_; refine wpList_load_mid rfl 32 _ rfl (w.heap.size) 0 rfl (GrdL (G)) _ r1 Tryd.underlying32 rfl (by rw [GrdL_length]; exact infoGround) ?_) | (go_at_call 67; have hc := (validGround_any G W HG.out TW.out (tab_lt TW.out)); rw [Hv.out] at hc; refine hc.mono ?_; clear hc; rintro e V ⟨rfl, hb1⟩))
    have r2 := range_kept r1 (by omega) _ hb1
    have P1 := Lib.hid (G1.out.below hb1 (by omega))
    have P2 := Lib.hid (G2.out.below hb1 hl)
    have TV := Lib.hid (TW.out.below hb1 (tab_lt TW.out))
    have B1 := Lib.hid (HB.out.trans (hb1.mono (by omega)))
    have hlV := hb1.size
    clear r1 hb1 tt
    have hnt := new_thereG 32 V
    go_upto_region 4 with (first | (refine ld_stage 32 rfl ?_; refine wpList_load_mid rfl 32 _ rfl (w.heap.size) 0 rfl (GrdL (G)) _ r2 Tryd.underlying32 rfl (by rw [GrdL_length]; exact infoGround) ?_) | (refine st_stage 32 rfl ?_; refine wpList_store_mid rfl 32 _ _ rfl _ 0 (Grd G) rfl rfl (by rw [Grd_size]; with_reducible exact hnt) (by rw [Grd_size]; exact infoGround) (Grd_one _) ?_))
    obtain ⟨U, hU, zU, gU, bU⟩ := stored_box G 32 V
    rw [hU]
    have r3 := (P1.out.below bU (by omega)).range
    have U2 := Lib.hid (P2.out.below bU (by omega))
    have TU := Lib.hid (TV.out.below bU (tab_lt TV.out))
    have BU := Lib.hid (B1.out.trans (bU.mono (by omega)))
    have GU := Lib.hid gU
    have hzU : V.heap.size < U.heap.size := by omega
    clear hU zU gU bU r2 hnt
    have hmf : ∀ (fn : Fn) (first cap : Array Value) (w : World), (Instr.makeFunc fn first cap).run Tryd.prog w = .ok (.func fn first cap) w := fun _ _ _ _ => rfl
    go_wp2_with (first | (refine ld_stage 32 rfl ?_; refine wpList_load_mid rfl 32 _ rfl (w.heap.size) 0 rfl (GrdL (G)) _ r3 Tryd.underlying32 rfl (by rw [GrdL_length]; exact infoGround) ?_) | (go_at_call 75; have hc := sweptStep_any G V.heap.size U Hv.out HG.out TU.out GU.out; rw [HA.out] at hc; refine hc.mono ?_; clear hc; rintro e Z ⟨rfl, hb2⟩; have P3 := Lib.hid (U2.out.below hb2 (by omega)); have B3 := Lib.hid (BU.out.trans (hb2.mono (by omega))); have tz := P3.out.there; clear hb2) | (refine st_stage 32 rfl ?_; refine wpList_store_mid rfl 32 _ _ rfl _ 0 (Grd A) rfl rfl (by rw [Grd_size]; with_reducible exact tz) (by rw [Grd_size]; exact infoGround) (Grd_one _) ?_))
    refine bodyPost_ret (results_gfn rfl _ _ _ A m n rfl rfl rfl P3.out.store.range Tryd.underlying32 rfl infoG195) rfl ⟨by rw [HE.out], below_setCells _ (by omega) _ _ _ B3.out⟩
end Go.Proofs.YtdhnneidkdoplaaDoor
