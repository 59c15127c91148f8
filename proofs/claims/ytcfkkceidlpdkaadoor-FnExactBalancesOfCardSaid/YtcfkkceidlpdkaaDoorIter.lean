/- The program's bitsIn: it goes through the bits of a mask in ascending order. Condition: the table of math/bits is laid. -/
import Derived.RangeFuncNested
import Derived.RangeFuncBound
import Derived.RangeFuncCalls
import Derived.RangeFuncLeaves
import Derived.Shelf.Abstract
import Derived.Shelf.RegionOpen
import Derived.Shelf.Spec.TrailingZeros
import Derived.WalkKit
import Derived.OwnWalkIn
import Derived.TacticsInMore
import Derived.LoopNIn
import Derived.LoopIn
import Derived.Test.YtcfkkceidlpdkaaDoorBits
import Derived.Test.YtcfkkceidlpdkaaDoorLiftT
import Derived.Laws.Bits64b
import Derived.Lib.Hide
namespace Go.Proofs.YtcfkkceidlpdkaaDoor
open Go.RowKit Go.Shelf
attribute [local go_sem] Oper.semAt_some

theorem tz64_core (x k idx : Nat) (w : World) (hx0 : ((x : Int) == 0) = false)
    (key : IntKind.u64.wrap (bits BinOp.and IntKind.u64 (x : Int) (IntKind.u64.wrap (-(x : Int))) * 285870213051353865) / 288230376151711744 = (idx : Int))
    (hi : idx < 64) (hk : k < 64) (hcell : w.cell? ⟨0, idx, none⟩ = some (.int .u8 k)) :
    Calls Tryd.prog 64 #[.int .u64 x] w fun e w' => e = .returned (.int .i64 k) ∧ w' = w := by
  go_enter Tryd.func64, Tryd.ntmps64
  go_wp2_with (simp only [key])
  go_ret
  exact ⟨rfl, rfl⟩

theorem tz64 (x : Nat) (h0 : x ≠ 0) (hx : x < 18446744073709551616) (w : World) (hT : TabAt w) :
    Calls Tryd.prog 64 #[.int .u64 x] w fun e w' => e = .returned (.int .i64 (Lib.ctz 64 x)) ∧ w' = w := by
  obtain ⟨hlow, hk⟩ := Lib.lowest_bit 64 x h0 hx
  obtain ⟨hi, htab⟩ := Lib.deBruijn64_at _ hk
  have hcell := hT _ hi
  rw [htab] at hcell
  exact tz64_core x _ _ w (by simp; omega) (tz64_key x _ hx h0 hlow) hi hk hcell

/-- A number of a bit that is set. -/
abbrev BitOf (m : Nat) := { i : Nat // i ∈ bitsL m }
/-- It is handed as an int64. -/
def encB (m : Nat) (x : BitOf m) : Array Value := #[Value.int .i64 x.1]

theorem sub1 (r : Nat) (h0 : r ≠ 0) (h : r < 18446744073709551616) : bits BinOp.and IntKind.u64 (r : Int) (IntKind.u64.wrap ((r : Int) - 1)) = ((r &&& (r - 1) : Nat) : Int) := by
  rw [show IntKind.u64.wrap ((r : Int) - 1) = ((r - 1 : Nat) : Int) by rw [IntKind.wrap_u64]; omega]
  exact bits_and_u64_nat r (r - 1) h (by omega)
theorem and_le (r : Nat) (h0 : r ≠ 0) : r &&& (r - 1) < r := by
  have : r &&& (r - 1) ≤ r - 1 := Nat.and_le_right
  omega

set_option maxRecDepth 100000 in
set_option maxHeartbeats 1000000 in
/-- bitsIn's iterator, FOR EVERY LOOP BODY THAT KEEPS WHAT LAY BELOW n₀. -/
theorem bits1_in (m : Nat) (hm : m < 18446744073709551616) (l Bn n₀ n : Nat) (hn : 1 ≤ n) (hn₀ : 0 < n₀) (J Jx : List (BitOf m) → World → Prop)
    (hY : ∀ pre x W, J pre W → pre.length < 64 → YieldAt Fence.wide (n - 1) Tryd.prog l (encB m x) W fun e W' =>
      (e = .returned (.bool true) ∧ J (pre ++ [x]) W' ∧ Below n₀ W W') ∨ (e = .returned (.bool false) ∧ Jx (pre ++ [x]) W'))
    (W : World) (hBn : W.cell? ⟨Bn, 0, none⟩ = some (.int .u64 m)) (hT : TabAt W) (h0 : J [] W) :
    CallsIn Fence.wide n Tryd.prog 92 #[.func (.yield l) #[] #[], .pointer (some ⟨Bn, 0, none⟩)] W fun e W' => (∃ v, e = .returned v) ∧
      ((∃ ys, ys.map (·.1) = bitsL m ∧ J ys W') ∨ (∃ pre, pre.map (·.1) <+: bitsL m ∧ Jx pre W')) := by
  refine callsIn_of_wp Tryd.func92 rfl trivial ?_ rfl
  simp only [Tryd.ntmps92, List.size_toArray, List.length_cons, List.length_nil, Nat.reduceAdd, Nat.reduceSub, Array.replicate_succ, Array.replicate_zero, List.push_toArray, List.append_toArray, List.nil_append, List.cons_append]
  gi_wp2
  gi_loopw [3] (fun p wr => ∃ (pre : List (BitOf m)) (r : Nat), p = .int .u64 r ∧ r ≤ m ∧ pre.map (·.1) ++ bitsL r = bitsL m ∧ J pre wr ∧ TabAt wr)
    (fun p wr => (intOf p).toNat)
  case atStart =>
    exact ⟨[], m, rfl, Nat.le_refl _, rfl, h0, hT⟩
  case round =>
    obtain ⟨pre, r, rfl, hr, hx, hJs, hTs⟩ := hrel
    by_cases hz : r = 0
    · subst hz
      gi_wp2
      go_end0
      exact ⟨⟨_, rfl⟩, .inl ⟨pre, by simpa [bitsL_zero] using hx, hJs⟩⟩
    · have hr64 : r < 18446744073709551616 := by omega
      have hc := bitsL_cons hz hr64
      have hmem : Lib.ctz 64 r ∈ bitsL m := by rw [← hx, hc]; simp
      have hlen : pre.length < 64 := by
        have h1 := congrArg List.length hx
        rw [hc] at h1
        have h2 : (bitsL m).length ≤ 64 := by
          have := List.length_filter_le (fun i => m.testBit i) (List.range 64)
          simpa [bitsL] using this
        simp at h1
        omega
      obtain ⟨fn, tmps, assign, body, hy, hR⟩ := hY pre ⟨_, hmem⟩ wr hJs hlen
      have e1 := sub1 r hz hr64
      have hx' : (pre ++ [(⟨_, hmem⟩ : BitOf m)]).map (·.1) ++ bitsL (r &&& (r - 1)) = bitsL m := by
        have h1 := hx
        rw [hc] at h1
        simpa using h1
      have HX := Lib.hid hx'
      have HXo := Lib.hid hx
      have Hc := Lib.hid hc
      have hne : ((r : Int) != 0) = true := by simpa [bne] using hz
      have E1 := Lib.hid e1
      have L := Lib.hid (and_le r hz)
      have Hz := Lib.hid hz
      clear hx' hx hc e1 hz
      dsimp only [encB] at hy
      gi_wp2_with (first | (refine ⟨trivial, ?_⟩; gi_at_call 64; refine (callsIn_wide.2 (tz64 r Hz.out hr64 _ hTs)).mono ?_; rintro e w' ⟨rfl, rfl⟩))
      refine hR.mono ?_
      rintro e W3 (⟨rfl, hJ3, hk3⟩ | ⟨rfl, hJx3⟩)
      · have hT3 : TabAt W3 := fun j hj => (hk3.cell (p := ⟨0, j, none⟩) hn₀).trans (hTs j hj)
        gi_wp2
        go_roundw
        case rel => exact ⟨pre ++ [⟨_, hmem⟩], r &&& (r - 1), by rw [E1.out], by have := L.out; omega, HX.out, hJ3, hT3⟩
        case measure => rw [E1.out]; simp only [intOf]; have := L.out; omega
      · gi_wp2
        refine bodyPost_ret (results_none rfl _ _ _) rfl ?_
        refine ⟨⟨_, rfl⟩, .inr ⟨pre ++ [⟨_, hmem⟩], ⟨bitsL (r &&& (r - 1)), HX.out⟩, hJx3⟩⟩

theorem TabAt.below {n : Nat} {w w' : World} (h : TabAt w) (hb : Below n w w') (hn : 0 < n) : TabAt w' := fun j hj => (hb.cell (p := ⟨0, j, none⟩) hn).trans (h j hj)

/-- bitsIn's value hands on the bits of its mask. -/
theorem bits_stops (m : Nat) (hm : m < 18446744073709551616) (n : Nat) (hn : 1 ≤ n) (Bn n₀ : Nat) (w : World) (hBn : Bn < w.heap.size) (hn₀ : 0 < n₀) (hle : n₀ ≤ w.heap.size)
    (hc : w.cell? ⟨Bn, 0, none⟩ = some (.int .u64 m)) (hT : TabAt w) :
    SeqStopsK Fence.wide n Tryd.prog 92 #[.pointer (some ⟨Bn, 0, none⟩)] (encB m) (Below n₀) (fun xs => xs.map (·.1) = bitsL m) (fun pre => pre.map (·.1) <+: bitsL m) 64 w := fun l J Jx W hW _ _ hY h0 =>
  bits1_in m hm l Bn n₀ n hn hn₀ J Jx hY W ((hW.cell (p := ⟨Bn, 0, none⟩) hBn).trans hc) (hT.below hW (Nat.lt_of_lt_of_le hn₀ hle)) h0

theorem bitsIn_any (m : Nat) (w : World) :
    Calls Tryd.prog 58 #[.int .u64 m] w fun e w' => e = .returned (.func (.func 92) #[] #[.pointer (some ⟨w.heap.size, 0, none⟩)]) ∧ w' = w.alloc (.cells #[.int .u64 m] 25) := by
  go_enter Tryd.func58, Tryd.ntmps58
  go_wp2
  go_ret
  exact ⟨rfl, rfl⟩
end Go.Proofs.YtcfkkceidlpdkaaDoor
