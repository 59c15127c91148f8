/- The law FnExactBasinOf: for every input the call returns true. Condition: the table of math/bits is laid. -/
import Derived.Test.YtabolokiiepjkaaDoorCell
import Derived.Test.YtabolokiiepjkaaDoorBas
namespace Go.Proofs.YtabolokiiepjkaaDoor
open Go.RowKit Go.WideShapes
set_option linter.unusedSimpArgs false
set_option linter.unusedVariables false

set_option maxRecDepth 100000 in
set_option maxHeartbeats 2000000 in
theorem fnExactBasinOf_calls (G : Gd) (x : Int) (w : World) (hG : GdOk G) (_lx : -9223372036854775808 ≤ x) (_ux : x ≤ 9223372036854775807) (hT : TabAt w) :
    Calls Tryd.prog 4 #[.agg (Grd G), .int .i64 x] w fun e w' => e = .returned (.bool true) ∧ Below w.heap.size w w' := by
  obtain ⟨o0, o1, hV⟩ : ∃ (o0 : Int) (o1 : Int), (Value.tuple #[.int .u64 (baV G x).1, .int .i64 (baV G x).2]) = .tuple #[.int .u64 o0, .int .i64 o1] := ⟨_, _, rfl⟩
  have HV := Lib.hid hV
  clear hV
  go_enter Tryd.func4, Tryd.ntmps4
  go_upto_region 1 with (fail)
  obtain ⟨W, hW, hs, g1, hB, hT1⟩ := box_in G 27 w hT
  rw [hW]
  clear hW
  have HT := Lib.hid hT1
  have HB := Lib.hid hB
  have r1 := g1.range
  have G1 := Lib.hid g1
  have hn1 : w.heap.size < W.heap.size := by omega
  clear hT hT1 hB hs g1
  go_upto_region 2 with (first | (refine wpList_load_mid rfl 27 _ rfl w.heap.size 0 rfl (GrdL G) _ r1 Tryd.underlying27 rfl (by rw [GrdL_length]; exact infoLGround) ?_) | (go_at_call 8; refine (toGround_any G _).mono ?_; rintro e U1 ⟨rfl, hu1⟩) | (go_at_call 13; have hc := (specBA_any G x U1 hG); rw [HV.out] at hc; refine hc.mono ?_; clear hc; rintro e V1 ⟨rfl, hv1⟩))
  have q1 := hu1.trans (hv1.mono hu1.size)
  have k1 := q1
  have r2 := (G1.out.below k1 hn1).range
  have B1 := Lib.hid (HB.out.trans (k1.mono (by omega)))
  have T1 := Lib.hid (HT.out.below k1 (tab_lt HT.out))
  have hn2 : w.heap.size < V1.heap.size := by have := k1.size; omega
  clear r1 hu1 hv1 q1 k1
  go_upto_region 3 with (first | (refine wpList_load_mid rfl 27 _ rfl w.heap.size 0 rfl (GrdL G) _ r2 Tryd.underlying27 rfl (by rw [GrdL_length]; exact infoLGround) ?_) | (go_at_call 8; refine (toGround_any G _).mono ?_; rintro e U2 ⟨rfl, hu2⟩) | (go_at_call 14; have hc := (implBA_any G x U2 hG _lx _ux (T1.out.below hu2 (tab_lt T1.out))); rw [HV.out] at hc; refine hc.mono ?_; clear hc; rintro e V2 ⟨rfl, hv2⟩))
  have q2 := hu2.trans (hv2.mono hu2.size)
  have k2 := q2
  have B2 := Lib.hid (B1.out.trans (k2.mono (by omega)))
  have hn4 : w.heap.size ≤ V2.heap.size := by have := k2.size; omega
  clear r2 hu2 hv2 q2 k2
  go_wp2
  go_ret
  exact ⟨rfl, B2.out⟩

set_option maxRecDepth 100000 in
theorem fnExactBasinOf_walk (W : World) (base : Nat) (args : Array Value) (hn : args.size = Tryd.f4.params.size)
    (hv : ∀ (j : Nat) t v, Tryd.f4.params[j]? = some t → args[j]? = some v → Value.okWide Tryd.prog W .any base t v) (hT : TabAt W) :
    Calls Tryd.prog 4 args W fun e W' => e = .returned (.bool true) ∧ Below W.heap.size W W' := by
  rw [Tryd.params4] at hn hv
  obtain ⟨l⟩ := args
  match l, hn with
  | [v0, v1], _ =>
    obtain ⟨G, rfl, hG⟩ := okWide_grd (hv 0 _ v0 rfl rfl)
    obtain ⟨x, rfl, _lx, _ux⟩ := okWide_i64 (hv 1 _ v1 rfl rfl)
    exact fnExactBasinOf_calls G x W hG _lx _ux hT
end Go.Proofs.YtabolokiiepjkaaDoor
