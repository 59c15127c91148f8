/- The law FnExactValidGround: for every ground the call returns true. Condition: the table of math/bits is laid. -/
import Derived.Test.YtjmekgogaiokpaaDoorChk
namespace Go.Proofs.YtjmekgogaiokpaaDoor
set_option maxRecDepth 100000
open Go.RowKit
set_option linter.unusedSimpArgs false

set_option maxRecDepth 100000 in
set_option maxHeartbeats 1000000 in
theorem validGroundLaw_calls (G : Gd) (w : World) (hG : GdOk G) (hT : TabAt w) (hgl : 0 < w.heap.size) :
    Calls Tryd.prog 3 #[.agg (Grd G)] w fun e w' => e = .returned (.bool true) ∧ Below w.heap.size w w' := by
  go_enter Tryd.func3, Tryd.ntmps3
  go_upto_region 1 with (fail)
  obtain ⟨W, hW, hz, g1, hB⟩ := gbox1 G 27 w
  rw [hW]
  clear hW
  have HT := Lib.hid (hT.below hB hgl)
  have HB := Lib.hid hB
  have Hz := Lib.hid hz
  have hgl1 : 0 < W.heap.size := by omega
  have r1 := g1.range
  clear hT hB hz
  go_upto_region 2 with (first | (refine wpList_load_mid rfl 27 _ rfl w.heap.size 0 rfl (GrdL G) _ r1 Tryd.underlying27 rfl (by rw [GrdL_length]; exact infoLGround) ?_) | (go_at_call 17; refine (toGround_any G _).mono ?_; rintro e V1 ⟨rfl, hb1⟩) | (go_at_call 16; refine (specValidGround_any G _ hG).mono ?_; rintro e V2 ⟨rfl, hb2⟩))
  have k2 := hb1.trans (hb2.mono hb1.size)
  have r2 := (g1.below k2 (by have := Hz.out; omega)).range
  clear r1 hb1 hb2
  go_upto_region 3 with (first | (refine wpList_load_mid rfl 27 _ rfl w.heap.size 0 rfl (GrdL G) _ r2 Tryd.underlying27 rfl (by rw [GrdL_length]; exact infoLGround) ?_) | (go_at_call 17; refine (toGround_any G _).mono ?_; rintro e V3 ⟨rfl, hb3⟩) | (go_at_call 18; refine (validGround_any G _ hG (HT.out.below (k2.trans (hb3.mono k2.size)) hgl1) (by have := k2.size; have := hb3.size; omega)).mono ?_; rintro e V4 ⟨rfl, hb4⟩))
  have k4 := k2.trans ((hb3.trans (hb4.mono hb3.size)).mono k2.size)
  have K := Lib.hid (HB.out.trans (k4.mono (by have := Hz.out; omega)))
  clear r2 hb3 hb4 k2 k4 g1
  go_wp2
  go_ret
  exact ⟨rfl, K.out⟩

theorem fnExactValidGround_walk (W : World) (base : Nat) (args : Array Value) (hn : args.size = Tryd.f3.params.size)
    (hv : ∀ (j : Nat) t v, Tryd.f3.params[j]? = some t → args[j]? = some v → Value.okWide Tryd.prog W .any base t v) (hT : TabAt W) :
    Calls Tryd.prog 3 args W fun e W' => e = .returned (.bool true) ∧ Below W.heap.size W W' := by
  rw [Tryd.params3] at hn hv
  obtain ⟨l⟩ := args
  match l, hn with
  | [v0], _ =>
    obtain ⟨G, rfl, hG⟩ := okWide_grd (hv 0 _ v0 rfl rfl)
    exact validGroundLaw_calls G W hG hT (tab_lt hT)
end Go.Proofs.YtjmekgogaiokpaaDoor
