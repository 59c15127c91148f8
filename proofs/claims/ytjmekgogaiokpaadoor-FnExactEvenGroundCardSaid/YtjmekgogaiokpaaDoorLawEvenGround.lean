/- The law FnExactEvenGround: for every input the call returns true. Condition: the table of math/bits is laid. -/
import Derived.Test.YtjmekgogaiokpaaDoorCell
import Derived.Test.YtjmekgogaiokpaaDoorEvenI
namespace Go.Proofs.YtjmekgogaiokpaaDoor
set_option maxRecDepth 100000
open Go.RowKit Go.WideShapes
set_option linter.unusedSimpArgs false

set_option maxRecDepth 100000 in
set_option maxHeartbeats 1000000 in
theorem fnExactEvenGround_calls (W H : Int) (c hd : Nat) (w : World) (hT : TabAt w) :
    Calls Tryd.prog 4 #[.int .i64 W, .int .i64 H, .float .f32 c, .float .f32 hd] w fun e w' => e = .returned (.bool true) ∧ Below w.heap.size w w' := by
  have hz := (zero_of_info zeroGround).1
  obtain ⟨AA, hA⟩ : ∃ A, evG W H c hd = A := ⟨_, rfl⟩
  obtain ⟨NN, hN⟩ : ∃ N, evN W H c hd = N := ⟨_, rfl⟩
  have HA := Lib.hid hA
  have HN := Lib.hid hN
  have HT := Lib.hid hT
  clear hA hN hT
  go_enter Tryd.func4, Tryd.ntmps4
  go_upto_region 2 with (first | (go_at_call 19; have hc := (specEven_any W H c hd w); rw [HA.out, HN.out] at hc; refine hc.mono ?_; clear hc; rintro e V1 ⟨rfl, hv1⟩; unfold GN) | (refine wpList_store_mid rfl 31 _ _ rfl _ 0 (Grd AA) rfl rfl (by rw [Grd_size]; exact new_there _ V1) (by rw [Grd_size]; exact infoGround) (Grd_one _) ?_; obtain ⟨X1, hX, zX1, gx1, bX1⟩ := stored_box AA 31 V1; rw [hX]; have hx1 : V1.heap.size < X1.heap.size := (by omega); clear hX zX1))
  have k1 := hv1.trans (bX1.mono hv1.size)
  have T1 := Lib.hid (HT.out.below k1 (tab_lt HT.out))
  have B1 := Lib.hid k1
  have hn3 : w.heap.size ≤ V1.heap.size := hv1.size
  have GX1 := Lib.hid gx1
  clear hv1 bX1 gx1 k1
  go_upto_region 3 with (first | (go_at_call 20; have hc := (implEven_any W H c hd X1 T1.out); rw [HA.out, HN.out] at hc; refine hc.mono ?_; clear hc; rintro e V2 ⟨rfl, hv2⟩; unfold GN) | (refine wpList_store_mid rfl 31 _ _ rfl _ 0 (Grd AA) rfl rfl (by rw [Grd_size]; exact new_there _ V2) (by rw [Grd_size]; exact infoGround) (Grd_one _) ?_; obtain ⟨X2, hX, zX2, gx2, bX2⟩ := stored_box AA 31 V2; rw [hX]; have hx2 : V2.heap.size < X2.heap.size := (by omega); clear hX zX2))
  have k2 := hv2.trans (bX2.mono hv2.size)
  have r4 := (GX1.out.below k2 (by omega)).range
  have r5 := gx2.range
  have hn4 : w.heap.size ≤ X2.heap.size := by have := k2.size; omega
  have B2 := Lib.hid (B1.out.trans (k2.mono (by omega)))
  clear hv2 k2 bX2 gx2 hz
  go_wp2_with (first | (refine wpList_load_mid rfl 31 _ rfl V2.heap.size 0 rfl (GrdL AA) _ r5 Tryd.underlying31 rfl (by rw [GrdL_length]; exact infoGround) ?_) | (refine wpList_load_mid rfl 31 _ rfl V1.heap.size 0 rfl (GrdL AA) _ r4 Tryd.underlying31 rfl (by rw [GrdL_length]; exact infoGround) ?_) | (go_at_call 21; refine (eqGround_yes AA _).mono ?_; rintro e Y ⟨rfl, hy⟩))
  go_ret
  exact ⟨rfl, B2.out.trans (hy.mono hn4)⟩

theorem fnExactEvenGround_walk (W : World) (base : Nat) (args : Array Value) (hn : args.size = Tryd.f4.params.size)
    (hv : ∀ (j : Nat) t v, Tryd.f4.params[j]? = some t → args[j]? = some v → Value.okWide Tryd.prog W .any base t v) (hT : TabAt W) :
    Calls Tryd.prog 4 args W fun e W' => e = .returned (.bool true) ∧ Below W.heap.size W W' := by
  rw [Tryd.params4] at hn hv
  obtain ⟨l⟩ := args
  match l, hn with
  | [v0, v1, v2, v3], _ =>
    obtain ⟨a, rfl, _, _⟩ := okWide_i64 (hv 0 _ v0 rfl rfl)
    obtain ⟨b, rfl, _, _⟩ := okWide_i64 (hv 1 _ v1 rfl rfl)
    obtain ⟨c, rfl, _⟩ := okWide_f32 (hv 2 _ v2 rfl rfl)
    obtain ⟨d, rfl, _⟩ := okWide_f32 (hv 3 _ v3 rfl rfl)
    exact fnExactEvenGround_calls a b c d W hT
end Go.Proofs.YtjmekgogaiokpaaDoor
