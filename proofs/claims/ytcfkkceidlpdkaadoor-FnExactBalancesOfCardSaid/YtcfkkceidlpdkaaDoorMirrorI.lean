/- MirrorGround: the program's. Condition: the table of math/bits is laid. -/
import Derived.Test.YtcfkkceidlpdkaaDoorMirrorS
import Derived.Test.YtcfkkceidlpdkaaDoorFixed
import Derived.Test.YtcfkkceidlpdkaaDoorSideOf
import Derived.Sort.CutIn
namespace Go.Proofs.YtcfkkceidlpdkaaDoor
open Go.RowKit Go.Shelf
attribute [local go_sem] Oper.semAt_some run_store_float
set_option linter.unusedSimpArgs false

theorem KeepsOthers.of_below' {W W' : World} (h : Below W.heap.size W W') : KeepsOthers W W' := ⟨h.size, fun k _ hk _ => (h.block k (Array.getElem?_eq_some_iff.1 hk).1).trans hk⟩

theorem mirS_no {G H : Gd} {k j n : Nat} (hj : mir G k = j) (hb : G.x.toNat.testBit k = false) (hn : H.x = (n : Int)) : mirS G H k = { H with c := upd H.c j (G.c k), g := upd H.g j (G.g k), h := upd H.h j (G.h k) } := by
  subst hj
  have e : ((H.x.toNat : Nat) : Int) = H.x := by rw [hn, Int.toNat_natCast]
  unfold mirS mvX
  rw [if_neg (by simp [hb]), e]
theorem mv_yes {G H : Gd} {k j n : Nat} (hj : mir G k = j) (hb : G.x.toNat.testBit k = true) (hn : H.x = (n : Int)) (h1 : n < 18446744073709551616) (h2 : j < 64) : bits .or .u64 H.x (IntKind.u64.wrap (2 ^ j)) = ((mvX G H.x.toNat k : Nat) : Int) := by
  rw [hn, or_bit n j h1 h2, Int.toNat_natCast]
  unfold mvX
  rw [if_pos hb, hj]

/-- A bit of a mask, as a test. -/
theorem bit_test (x k : Nat) (hx : x < 18446744073709551616) : (bits .and .u64 ((x : Int) / 2 ^ k) 1 == 1) = x.testBit k := by
  have e : (x : Int) / 2 ^ k = ((x / 2 ^ k : Nat) : Int) := by simp
  have h1 : x / 2 ^ k < 18446744073709551616 := Nat.lt_of_le_of_lt (Nat.div_le_self _ _) hx
  rw [e, show (1 : Int) = ((1 : Nat) : Int) from rfl, bits_and_u64_nat _ 1 h1 (by omega), Nat.and_one_is_mod, Nat.testBit_eq_decide_div_mod_eq]
  have : x / 2 ^ k % 2 = 0 ∨ x / 2 ^ k % 2 = 1 := by omega
  rcases this with h | h <;> simp [h]

theorem isFixed_any (G : Gd) (k : Nat) (hk : k < 64) (p : Nat) (w : World) (hp : GrdAt w p 0 G) (hG : GdOk G) :
    Calls Tryd.prog 94 #[.pointer (some ⟨p, 0, none⟩), .int .i64 k] w fun e w' => e = .returned (.bool (G.x.toNat.testBit k)) ∧ w = w' := by
  have xx := hG.x'
  obtain ⟨x, hx⟩ : ∃ x : Nat, G.x = x := ⟨G.x.toNat, by omega⟩
  have hb := Lib.hid (bit_test x k (by omega))
  have a0 := hp.x
  rw [Nat.zero_add, hx] at a0
  rw [hx, Int.toNat_natCast]
  clear hp hG
  go_enter Tryd.func94, Tryd.ntmps94
  go_wp2
  go_ret
  exact ⟨ret_bool hb.out, rfl⟩

end Go.Proofs.YtcfkkceidlpdkaaDoor
