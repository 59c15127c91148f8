/- What the model draws: a number below n, an aquifer, a number, out of bytes. Condition: none of its own. -/
import Derived.Test.YtecmpdplkaphaaaPick
import Derived.Test.YtecmpdplkaphaaaAq
import Derived.Test.YtecmpdplkaphaaaNm
namespace Go.Proofs.Ytecmpdplkaphaaa
open Go Go.RowKit Ieee
set_option linter.unusedSimpArgs false
set_option linter.unusedVariables false
attribute [local go_sem] run_store_f32

set_option maxRecDepth 100000 in
set_option maxHeartbeats 1000000 in
theorem l00From_any (p : Option Addr) (n c : Nat) (hn : n ≤ maxLen) (w : World) (h : BytesAt w w.heap.size p n) :
    Calls Try.prog 13 #[.slice p n c] w fun e w' => e = .returned (.pointer (some ⟨w.heap.size, 0, none⟩)) ∧ Below w.heap.size w w' ∧ w'.heap.size = w.heap.size + 1 ∧ SrcAt w' w.heap.size 0 := by
  have H := Lib.hid h
  clear h
  go_enter Try.func13, Try.ntmps13
  go_wp2
  go_ret
  have hB : Below w.heap.size w (w.alloc (.cells #[.slice p n c, .int .i64 0, .int .u64 0] 38)) := (Below.refl _ _).alloc (Nat.le_refl _) _
  exact ⟨rfl, hB, by simp, p, n, c, 0, 0, heap_alloc_last w _, hn, Nat.le_refl _, by omega, by omega, H.out.below hB⟩

set_option maxRecDepth 100000 in
set_option maxHeartbeats 1000000 in
theorem P6Pick_any (p : Option Addr) (n c m : Nat) (hn : n ≤ maxLen) (hm : 1 ≤ m) (hm2 : m < 4294967296) (w : World) (h : BytesAt w w.heap.size p n) :
    Calls Try.prog 5 #[.slice p n c, .int .i64 (m : Int)] w fun e w' => (∃ x : Nat, x < m ∧ e = .returned (.int .i64 (x : Int))) ∧ Below w.heap.size w w' := by
  have T0 := l00From_any p n c hn w h
  clear h
  go_enter Try.func5, Try.ntmps5
  go_wp2_with (first | (go_at_call 13; refine T0.mono ?_; rintro e V1 ⟨rfl, hb1, hz1, hs1⟩; have B1 := Lib.hid hb1; have S1 := Lib.hid hs1; clear hb1 hz1 hs1) | (go_at_call 14; refine (pick_any _ 0 m (by omega) hm hm2 _ S1.out).mono ?_; rintro e V2 ⟨⟨x, hx, rfl⟩, hb2, hz2, hs2⟩; have B2 := Lib.hid hb2; clear hb2 hz2 hs2))
  go_ret
  exact ⟨⟨x, hx, rfl⟩, B1.out.trans B2.out.1⟩

theorem BytesAt.at' {w V : World} {p : Option Addr} {n : Nat} (h : BytesAt w w.heap.size p n) (hB : Below w.heap.size w V) : BytesAt V V.heap.size p n := fun i hi => by
  obtain ⟨bb, oo, x, hp, hb, hc⟩ := (h.below hB) i hi
  exact ⟨bb, oo, x, hp, Nat.lt_of_lt_of_le hb hB.size, hc⟩
def aqT (i : Nat) : Nat := qv (1 + (i : Nat) : Int) 1098907648
def aqS (i : Nat) : Nat := qv (1 + (i : Nat) : Int) 1149239296

end Go.Proofs.Ytecmpdplkaphaaa
