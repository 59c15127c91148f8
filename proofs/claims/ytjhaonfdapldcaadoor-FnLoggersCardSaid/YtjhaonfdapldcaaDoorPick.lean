/- The model's source of choices: its next byte (next) and a number below n (pick). Condition: what it has been asked so far is few. -/
import Derived.Test.YtjhaonfdapldcaaDoorBase
import Derived.Test.YtjhaonfdapldcaaDoorHelp
import Derived.BigQuiet
import Derived.Laws.BitsAllLaws
import Derived.Deep.QuietTactic
import Derived.Deep.RegionHeld3
namespace Go.Proofs.YtjhaonfdapldcaaDoor
open Go Go.RowKit Ieee
set_option linter.unusedSimpArgs false
set_option linter.unusedVariables false

/-- The bytes of a slice, wherever they lie below block b. -/
def BytesAt (w : World) (B : Nat) (p : Option Addr) (n : Nat) : Prop := ∀ i, i < n → ∃ bb oo x, p = some ⟨bb, oo, none⟩ ∧ bb < B ∧ w.cell? ⟨bb, oo + i, none⟩ = some (.int .u8 x) ∧ 0 ≤ x ∧ x ≤ 255
/-- The source lies in block b; it has been asked at most k times. -/
def SrcAt (w : World) (b k : Nat) : Prop := ∃ (p : Option Addr) (n c : Nat) (a : Nat) (s : Int), w.heap[b]? = some (.cells #[.slice p n c, .int .i64 (a : Int), .int .u64 s] 98 (0, 0)) ∧ n ≤ maxLen ∧ a ≤ k ∧ 0 ≤ s ∧ s < 18446744073709551616 ∧ BytesAt w b p n
/-- Nothing but block b has turned. -/
def Only (b : Nat) (w w' : World) : Prop := Below b w w' ∧ ∀ k, k ≠ b → w'.heap[k]? = w.heap[k]?
theorem Only.trans {b : Nat} {u v w : World} (h : Only b u v) (g : Only b v w) : Only b u w := ⟨h.1.trans g.1, fun k hk => (g.2 k hk).trans (h.2 k hk)⟩
theorem BytesAt.below {w w' : World} {B : Nat} {p : Option Addr} {n : Nat} (h : BytesAt w B p n) (hB : Below B w w') : BytesAt w' B p n := fun i hi => by
  obtain ⟨bb, oo, x, hp, hb, hc, h0⟩ := h i hi
  exact ⟨bb, oo, x, hp, hb, (hB.cell (p := ⟨bb, oo + i, none⟩) hb).trans hc, h0⟩

theorem wrap_u (z : Int) : 0 ≤ IntKind.u64.wrap z ∧ IntKind.u64.wrap z < 18446744073709551616 := by
  have h := bounds_u64 (wf_wrap .u64 z)
  omega
theorem SrcAt.more {w : World} {b k l : Nat} (h : SrcAt w b k) (hl : k ≤ l) : SrcAt w b l := by
  obtain ⟨p, n, c, a, s, hb, hn, ha, h0⟩ := h
  exact ⟨p, n, c, a, s, hb, hn, Nat.le_trans ha hl, h0⟩
theorem and_255 {z : Int} (h0 : 0 ≤ z) (h1 : z < 18446744073709551616) : 0 ≤ wrap64 (bits .and .u64 (z / 1099511627776) 255) ∧ wrap64 (bits .and .u64 (z / 1099511627776) 255) ≤ 255 := by
  have e := u64_and (z / 1099511627776) 255 (by omega) (by omega) (by omega) (by omega)
  have hle : (z / 1099511627776).toNat &&& (255 : Int).toNat ≤ 255 := Nat.and_le_right
  rw [e, IntWalk.wrap64_in _ ⟨by omega, by omega⟩]
  omega
/-- The source behind one question. -/
theorem src_put {w : World} {b : Nat} {x y z : Value} {t : TypeId} (h : w.heap[b]? = some (.cells #[x, y, z] t (0, 0))) (u v : Value) :
    (∀ n m, Below b w ((((w.drewN n).setCell ⟨b, 1, none⟩ u).setCell ⟨b, 2, none⟩ v).drewN m)) ∧ (∀ n m, ((((w.drewN n).setCell ⟨b, 1, none⟩ u).setCell ⟨b, 2, none⟩ v).drewN m).heap.size = w.heap.size) ∧
    (∀ n m, ((((w.drewN n).setCell ⟨b, 1, none⟩ u).setCell ⟨b, 2, none⟩ v).drewN m).heap[b]? = some (.cells #[x, u, v] t (0, 0))) ∧
    ∀ n m k, k ≠ b → ((((w.drewN n).setCell ⟨b, 1, none⟩ u).setCell ⟨b, 2, none⟩ v).drewN m).heap[k]? = w.heap[k]? := by
  refine ⟨fun n m => ?_, fun n m => ?_, fun n m => ?_, fun n m k hk => ?_⟩
  · have h1 : Below b w (w.drewN n) := ⟨rfl, rfl, rfl, Nat.le_refl _, fun _ _ => rfl⟩
    exact ((h1.setCell (p := ⟨b, 1, none⟩) (Nat.le_refl _) u).setCell (p := ⟨b, 2, none⟩) (Nat.le_refl _) v).trans ⟨rfl, rfl, rfl, Nat.le_refl _, fun _ _ => rfl⟩
  · show (((w.drewN n).setCell ⟨b, 1, none⟩ u).setCell ⟨b, 2, none⟩ v).heap.size = _
    rw [World.size_setCell, World.size_setCell]
    rfl
  · show (((w.drewN n).setCell ⟨b, 1, none⟩ u).setCell ⟨b, 2, none⟩ v).heap[b]? = _
    have e1 := heap_setCell_same (w.drewN n) b 1 #[x, y, z] t u h
    have e2 := heap_setCell_same ((w.drewN n).setCell ⟨b, 1, none⟩ u) b 2 _ t v e1
    rw [e2]
    rfl
  · show (((w.drewN n).setCell ⟨b, 1, none⟩ u).setCell ⟨b, 2, none⟩ v).heap[k]? = _
    rw [heap_setCell_other _ ⟨b, 2, none⟩ _ _ hk, heap_setCell_other _ ⟨b, 1, none⟩ _ _ hk]
    rfl

set_option maxRecDepth 100000 in
set_option maxHeartbeats 1000000 in
theorem next_in (p : Option Addr) (n c a b : Nat) (s x : Int) (hn : n ≤ maxLen) (ha : a < 1152921504606846976) (h0 : 0 ≤ s) (h1 : s < 18446744073709551616) (hx : 0 ≤ x ∧ x ≤ 255) (bb oo : Nat) (hp : p = some ⟨bb, oo, none⟩) (hbb : bb < b) (w : World)
    (hb : w.heap[b]? = some (.cells #[.slice p n c, .int .i64 (a : Int), .int .u64 s] 98 (0, 0))) (han : a < n) (hc : w.cell? ⟨bb, oo + a, none⟩ = some (.int .u8 x)) :
    Calls Tryd.prog 66 #[.pointer (some ⟨b, 0, none⟩)] w fun e w' => e = .returned (.int .i64 x) ∧ Only b w w' ∧ w'.heap.size = w.heap.size ∧ ∃ s' : Int, 0 ≤ s' ∧ s' < 18446744073709551616 ∧ w'.heap[b]? = some (.cells #[.slice p n c, .int .i64 ((a + 1 : Nat) : Int), .int .u64 s'] 98 (0, 0)) := by
  unfold maxLen at hn
  have hi : (a : Int) < n := by omega
  have c0 : w.cell? ⟨b, 0, none⟩ = some (.slice p n c) := cell_of_row w b 0 _ _ _ hb
  have c1 : w.cell? ⟨b, 1, none⟩ = some (.int .i64 (a : Int)) := cell_of_row w b 1 _ _ _ hb
  have c2 : w.cell? ⟨b, 2, none⟩ = some (.int .u64 s) := cell_of_row w b 2 _ _ _ hb
  have f1 : w.frozen? ⟨b, 1, none⟩ = false := frozen_of_row w b 1 _ _ hb
  have f2 : w.frozen? ⟨b, 2, none⟩ = false := frozen_of_row w b 2 _ _ hb
  have HB := Lib.hid hb
  clear hb
  subst hp
  go_enter Tryd.func66, Tryd.ntmps66
  go_upto_region 2 with (fail)
  go_quiet (fail)
  go_upto_region 3 with (fail)
  go_quiet (fail)
  go_upto_region 6 with (fail)
  go_quiet (fail)
  go_wp2
  go_ret
  have R := src_put HB.out (Value.int .i64 ((a : Int) + 1)) (Value.int .u64 (IntKind.u64.wrap (IntKind.u64.wrap (IntKind.u64.wrap (s * 6364136223846793005) + x) + 1442695040888963407)))
  exact ⟨rfl, ⟨R.1 _ _, R.2.2.2 _ _⟩, R.2.1 _ _, _, (wrap_u _).1, (wrap_u _).2, by rw [Int.natCast_add]; exact R.2.2.1 _ _⟩

set_option maxRecDepth 100000 in
set_option maxHeartbeats 1000000 in
theorem next_out (p : Option Addr) (n c a b : Nat) (s : Int) (hn : n ≤ maxLen) (ha : a < 1152921504606846976) (h0 : 0 ≤ s) (h1 : s < 18446744073709551616) (w : World)
    (hb : w.heap[b]? = some (.cells #[.slice p n c, .int .i64 (a : Int), .int .u64 s] 98 (0, 0))) (han : n ≤ a) :
    Calls Tryd.prog 66 #[.pointer (some ⟨b, 0, none⟩)] w fun e w' => (∃ x : Int, 0 ≤ x ∧ x ≤ 255 ∧ e = .returned (.int .i64 x)) ∧ Only b w w' ∧ w'.heap.size = w.heap.size ∧ ∃ s' : Int, 0 ≤ s' ∧ s' < 18446744073709551616 ∧ w'.heap[b]? = some (.cells #[.slice p n c, .int .i64 ((a + 1 : Nat) : Int), .int .u64 s'] 98 (0, 0)) := by
  unfold maxLen at hn
  have hi : ¬ (a : Int) < n := by omega
  have hi2 : ¬ (a : Int) + 1 ≤ n := by omega
  have c0 : w.cell? ⟨b, 0, none⟩ = some (.slice p n c) := cell_of_row w b 0 _ _ _ hb
  have c1 : w.cell? ⟨b, 1, none⟩ = some (.int .i64 (a : Int)) := cell_of_row w b 1 _ _ _ hb
  have c2 : w.cell? ⟨b, 2, none⟩ = some (.int .u64 s) := cell_of_row w b 2 _ _ _ hb
  have f1 : w.frozen? ⟨b, 1, none⟩ = false := frozen_of_row w b 1 _ _ hb
  have f2 : w.frozen? ⟨b, 2, none⟩ = false := frozen_of_row w b 2 _ _ hb
  have HB := Lib.hid hb
  clear hb
  go_enter Tryd.func66, Tryd.ntmps66
  go_upto_region 2 with (fail)
  go_quiet (fail)
  go_upto_region 6 with (fail)
  go_quiet (fail)
  go_wp2
  go_ret
  have R := src_put HB.out (Value.int .i64 ((a : Int) + 1)) (Value.int .u64 (IntKind.u64.wrap (IntKind.u64.wrap (IntKind.u64.wrap (s * 6364136223846793005)) + 1442695040888963407)))
  have W := wrap_u (IntKind.u64.wrap (IntKind.u64.wrap (s * 6364136223846793005)) + 1442695040888963407)
  have E := and_255 W.1 W.2
  exact ⟨⟨_, E.1, E.2, rfl⟩, ⟨R.1 _ _, R.2.2.2 _ _⟩, R.2.1 _ _, _, W.1, W.2, R.2.2.1 _ _⟩

/-- One question: a byte, and the source has been asked once more. -/
theorem next_any (b k : Nat) (hk : k < 1152921504606846976) (w : World) (h : SrcAt w b k) :
    Calls Tryd.prog 66 #[.pointer (some ⟨b, 0, none⟩)] w fun e w' => (∃ x : Int, 0 ≤ x ∧ x ≤ 255 ∧ e = .returned (.int .i64 x)) ∧ Only b w w' ∧ w'.heap.size = w.heap.size ∧ SrcAt w' b (k + 1) := by
  obtain ⟨p, n, c, a, s, hb, hn, ha, h0, h1, hB⟩ := h
  by_cases han : a < n
  · obtain ⟨bb, oo, x, hp, hbb, hc, hx⟩ := hB a han
    refine (next_in p n c a b s x hn (by omega) h0 h1 hx bb oo hp hbb w hb han hc).mono ?_
    rintro e w' ⟨rfl, hw, hz, s', g0, g1, hb'⟩
    exact ⟨⟨x, hx.1, hx.2, rfl⟩, hw, hz, p, n, c, a + 1, s', hb', hn, by omega, g0, g1, hB.below hw.1⟩
  · refine (next_out p n c a b s hn (by omega) h0 h1 w hb (by omega)).mono ?_
    rintro e w' ⟨hx, hw, hz, s', g0, g1, hb'⟩
    exact ⟨hx, hw, hz, p, n, c, a + 1, s', hb', hn, by omega, g0, g1, hB.below hw.1⟩

set_option maxRecDepth 100000 in
set_option maxHeartbeats 1000000 in
/-- A number below n. -/
theorem pick_any (b k n : Nat) (hk : k < 1073741824) (hn : 1 ≤ n) (hn2 : n < 4294967296) (w : World) (h : SrcAt w b k) :
    Calls Tryd.prog 40 #[.pointer (some ⟨b, 0, none⟩), .int .i64 (n : Int)] w fun e w' => (∃ x : Nat, x < n ∧ e = .returned (.int .i64 (x : Int))) ∧ Only b w w' ∧ w'.heap.size = w.heap.size ∧ SrcAt w' b (k + 2) := by
  have H := Lib.hid h
  have T0 := fun (k : Nat) (hk : k < 1152921504606846976) (V : World) (h : SrcAt V b k) => next_any b k hk V h
  clear h
  have t1 : True := trivial
  by_cases h1 : n ≤ 1
  · have hi : (n : Int) ≤ 1 := by omega
    go_enter Tryd.func40, Tryd.ntmps40
    go_wp2
    go_ret
    exact ⟨⟨0, by omega, rfl⟩, ⟨Below.refl _ _, fun _ _ => rfl⟩, rfl, H.out.more (by omega)⟩
  · have hi : ¬ (n : Int) ≤ 1 := by omega
    by_cases h2 : 200 < n
    · have hi2 : (200 : Int) < n := by omega
      go_enter Tryd.func40, Tryd.ntmps40
      go_wp2_with (first | (have _t := t1; go_at_call 66; refine (T0 k (by omega) _ H.out).mono ?_; rintro e V1 ⟨⟨x, hx0, hx1, rfl⟩, hb1, hz1, hs1⟩; have B1 := Lib.hid hb1; have Z1 := Lib.hid hz1; have S1 := Lib.hid hs1; clear t1 hb1 hz1 hs1) | (go_at_call 66; refine (T0 (k + 1) (by omega) _ S1.out).mono ?_; rintro e V2 ⟨⟨y, hy0, hy1, rfl⟩, hb2, hz2, hs2⟩; have B2 := Lib.hid hb2; have Z2 := Lib.hid hz2; have S2 := Lib.hid hs2; clear hb2 hz2 hs2))
      go_ret
      exact ⟨⟨((x * 256 + y) % n).toNat, by have := Int.emod_lt_of_pos (x * 256 + y) (show (0 : Int) < n by omega); have := Int.emod_nonneg (x * 256 + y) (show (n : Int) ≠ 0 by omega); omega, by rw [Int.toNat_of_nonneg (Int.emod_nonneg _ (by omega))]; rfl⟩, B1.out.trans B2.out, Z2.out.trans Z1.out, S2.out⟩
    · have hi2 : ¬ (200 : Int) < n := by omega
      go_enter Tryd.func40, Tryd.ntmps40
      go_wp2_with (go_at_call 66; refine (T0 k (by omega) _ H.out).mono ?_; rintro e V1 ⟨⟨x, hx0, hx1, rfl⟩, hb1, hz1, hs1⟩; have B1 := Lib.hid hb1; have Z1 := Lib.hid hz1; have S1 := Lib.hid hs1; clear t1 hb1 hz1 hs1)
      go_ret
      exact ⟨⟨(x % n).toNat, by have := Int.emod_lt_of_pos x (show (0 : Int) < n by omega); have := Int.emod_nonneg x (show (n : Int) ≠ 0 by omega); omega, by rw [Int.toNat_of_nonneg (Int.emod_nonneg _ (by omega))]; rfl⟩, B1.out, Z1.out, S1.out.more (by omega)⟩


end Go.Proofs.YtjhaonfdapldcaaDoor
