/- What the model draws: a number below n, an aquifer, a number, out of bytes. Condition: none of its own. -/
import Derived.Test.YthklihenghnaeaaPick
import Derived.Test.YthklihenghnaeaaAq
import Derived.Test.YthklihenghnaeaaNm
namespace Go.Proofs.Ythklihenghnaeaa
open Go Go.RowKit Ieee
set_option linter.unusedSimpArgs false
set_option linter.unusedVariables false
attribute [local go_sem] run_store_f32

set_option maxRecDepth 100000 in
set_option maxHeartbeats 1000000 in
theorem l00From_any (p : Option Addr) (n c : Nat) (hn : n ≤ maxLen) (w : World) (h : BytesAt w w.heap.size p n) :
    Calls Try.prog 50 #[.slice p n c] w fun e w' => e = .returned (.pointer (some ⟨w.heap.size, 0, none⟩)) ∧ Below w.heap.size w w' ∧ w'.heap.size = w.heap.size + 1 ∧ SrcAt w' w.heap.size 0 := by
  have H := Lib.hid h
  clear h
  go_enter Try.func50, Try.ntmps50
  go_wp2
  go_ret
  have hB : Below w.heap.size w (w.alloc (.cells #[.slice p n c, .int .i64 0, .int .u64 0] 103)) := (Below.refl _ _).alloc (Nat.le_refl _) _
  exact ⟨rfl, hB, by simp, p, n, c, 0, 0, heap_alloc_last w _, hn, Nat.le_refl _, by omega, by omega, H.out.below hB⟩

set_option maxRecDepth 100000 in
set_option maxHeartbeats 1000000 in
theorem P6Pick_any (p : Option Addr) (n c m : Nat) (hn : n ≤ maxLen) (hm : 1 ≤ m) (hm2 : m < 4294967296) (w : World) (h : BytesAt w w.heap.size p n) :
    Calls Try.prog 22 #[.slice p n c, .int .i64 (m : Int)] w fun e w' => (∃ x : Nat, x < m ∧ e = .returned (.int .i64 (x : Int))) ∧ Below w.heap.size w w' := by
  have T0 := l00From_any p n c hn w h
  clear h
  go_enter Try.func22, Try.ntmps22
  go_wp2_with (first | (go_at_call 50; refine T0.mono ?_; rintro e V1 ⟨rfl, hb1, hz1, hs1⟩; have B1 := Lib.hid hb1; have S1 := Lib.hid hs1; clear hb1 hz1 hs1) | (go_at_call 51; refine (pick_any _ 0 m (by omega) hm hm2 _ S1.out).mono ?_; rintro e V2 ⟨⟨x, hx, rfl⟩, hb2, hz2, hs2⟩; have B2 := Lib.hid hb2; clear hb2 hz2 hs2))
  go_ret
  exact ⟨⟨x, hx, rfl⟩, B1.out.trans B2.out.1⟩

theorem BytesAt.at' {w V : World} {p : Option Addr} {n : Nat} (h : BytesAt w w.heap.size p n) (hB : Below w.heap.size w V) : BytesAt V V.heap.size p n := fun i hi => by
  obtain ⟨bb, oo, x, hp, hb, hc⟩ := (h.below hB) i hi
  exact ⟨bb, oo, x, hp, Nat.lt_of_lt_of_le hb hB.size, hc⟩
def aqT (i : Nat) : Nat := qv (1 + (i : Nat) : Int) 1098907648
def aqS (i : Nat) : Nat := qv (1 + (i : Nat) : Int) 1149239296

set_option maxRecDepth 100000 in
set_option maxHeartbeats 1000000 in
theorem P6Aquifer_any (p : Option Addr) (n c : Nat) (hn : n ≤ maxLen) (w : World) (h : BytesAt w w.heap.size p n) :
    Calls Try.prog 16 #[.slice p n c] w fun e w' => (∃ i j : Nat, i < 800 ∧ j < 500 ∧ e = .returned (.agg (Aq (aqT i) (aqS j)))) ∧ Below w.heap.size w w' := by
  have hB0 : Below w.heap.size w (w.alloc (.cells #[.float .f32 0, .float .f32 0] 26)) := (Below.refl _ _).alloc (Nat.le_refl _) _
  have T0 := l00From_any p n c hn _ (h.at' hB0)
  have hz : (w.alloc (.cells #[.float .f32 0, .float .f32 0] 26)).heap.size = w.heap.size + 1 := by simp
  have K0 := Lib.hid (heap_alloc_last w (.cells #[.float .f32 0, .float .f32 0] 26))
  have BW := Lib.hid hB0
  rw [hz] at T0
  clear h hB0 hz
  have t1 : True := trivial
  have t2 : True := trivial
  have t3 : True := trivial
  simp only [Aq]
  go_enter Try.func16, Try.ntmps16
  go_wp2_with (first
    | (have _t := t1; go_at_call 50; refine T0.mono ?_; rintro e V1 ⟨rfl, hb1, hz1, hs1⟩; have S1 := Lib.hid hs1; have k1 := (hb1.block w.heap.size (by omega)).trans K0.out; have K1 := Lib.hid k1; have B1 := Lib.hid hb1; clear hb1 hz1 hs1 k1 T0 t1)
    | (have _t := t2; go_at_call 51; refine (pick_any _ 0 800 (by omega) (by omega) (by omega) _ S1.out).mono ?_; rintro e V2 ⟨⟨x, hx, rfl⟩, hb2, hz2, hs2⟩; have S2 := Lib.hid hs2; have k2 := (hb2.2 w.heap.size (by omega)).trans K1.out; have K2 := Lib.hid k2; have B2 := Lib.hid (B1.out.trans hb2.1); have hf1 := (qT_ok x hx).1; have F1 := Lib.hid hf1; clear hb2 hz2 hs2 k2 t2 S1 K1 B1 hf1)
    | (refine wpList_floatD rfl _ _ _ _ _ rfl rfl .f32 _ _ _ rfl rfl F1.out ?_)
    | (have _t := t3; go_at_call 51; refine (pick_any _ 2 500 (by omega) (by omega) (by omega) _ S2.out).mono ?_; rintro e V3 ⟨⟨y, hy, rfl⟩, hb3, hz3, hs3⟩; have k3 := (hb3.2 w.heap.size (by omega)).trans K2.out; have c30 : V3.cell? ⟨w.heap.size, 0, none⟩ = some (.float .f32 0) := cell_of_row V3 _ 0 _ _ _ k3; have c31 : V3.cell? ⟨w.heap.size, 1, none⟩ = some (.float .f32 0) := cell_of_row V3 _ 1 _ _ _ k3; have f30 := frozen_of_row V3 w.heap.size 0 _ _ k3; have f31 := frozen_of_row V3 w.heap.size 1 _ _ k3; clear k3; have B3 := Lib.hid (B2.out.trans hb3.1); have hf2 := (qS_ok y hy).1; have F2 := Lib.hid hf2; clear hb3 hz3 hs3 t3 S2 K2 B2 F1 hf2)
    | (refine wpList_floatD rfl _ _ _ _ _ rfl rfl .f32 _ _ _ rfl rfl F2.out ?_))
  have e0 : (V3.setCell ⟨w.heap.size, 0, none⟩ (.float .f32 (qv (1 + (x : Int)) 1098907648))).cell? ⟨w.heap.size, 0, none⟩ = some (.float .f32 (qv (1 + (x : Int)) 1098907648)) := World.cell?_setCell_same _ _ _ c30
  have e1 : (V3.setCell ⟨w.heap.size, 0, none⟩ (.float .f32 (qv (1 + (x : Int)) 1098907648))).cell? ⟨w.heap.size, 1, none⟩ = some (.float .f32 0) := (World.cell?_setCell_other _ _ _ _ (by simp)).trans c31
  have e2 : ((V3.setCell ⟨w.heap.size, 0, none⟩ (.float .f32 (qv (1 + (x : Int)) 1098907648))).setCell ⟨w.heap.size, 1, none⟩ (.float .f32 (qv (1 + (y : Int)) 1149239296))).cell? ⟨w.heap.size, 1, none⟩ = some (.float .f32 (qv (1 + (y : Int)) 1149239296)) := World.cell?_setCell_same _ _ _ e1
  refine bodyPost_ret (by simp [results, Try.results16, go_sem, e0, e2]; exact ⟨rfl, rfl⟩) rfl ⟨⟨x, y, hx, hy, rfl⟩, ?_⟩
  have hB := BW.out.trans (B3.out.mono (Nat.le_succ _))
  exact (hB.setCell (p := ⟨w.heap.size, 0, none⟩) (Nat.le_refl _) _).setCell (p := ⟨w.heap.size, 1, none⟩) (Nat.le_refl _) _
set_option maxRecDepth 100000 in
set_option maxHeartbeats 1000000 in
theorem l03Number_any (b k : Nat) (hk : k < 1073741824) (w : World) (h : SrcAt w b k) :
    Calls Try.prog 52 #[.pointer (some ⟨b, 0, none⟩)] w fun e w' => (∃ i : Nat, i < 6401 ∧ e = .returned (.float .f32 (nmV i))) ∧ Only b w w' ∧ w'.heap.size = w.heap.size ∧ SrcAt w' b (k + 2) := by
  have T0 := pick_any b k 6401 hk (by omega) (by omega) w h
  clear h
  go_enter Try.func52, Try.ntmps52
  go_wp2_with (first
    | (go_at_call 51; refine T0.mono ?_; rintro e V ⟨⟨x, hx, rfl⟩, hb, hz, hs⟩; have S2 := Lib.hid hs; have Z := Lib.hid hz; have B2 := Lib.hid hb; have hf1 := nm_ok x hx; have F1 := Lib.hid hf1; clear hb hz hs hf1 T0)
    | (refine wpList_floatD rfl _ _ _ _ _ rfl rfl .f32 _ _ _ rfl rfl F1.out ?_))
  go_ret
  exact ⟨⟨x, hx, rfl⟩, B2.out, Z.out, S2.out⟩

set_option maxRecDepth 100000 in
set_option maxHeartbeats 1000000 in
theorem P6Number_any (p : Option Addr) (n c : Nat) (hn : n ≤ maxLen) (w : World) (h : BytesAt w w.heap.size p n) :
    Calls Try.prog 18 #[.slice p n c] w fun e w' => (∃ i : Nat, i < 6401 ∧ e = .returned (.float .f32 (nmV i))) ∧ Below w.heap.size w w' := by
  have T0 := l00From_any p n c hn w h
  clear h
  go_enter Try.func18, Try.ntmps18
  go_wp2_with (first | (go_at_call 50; refine T0.mono ?_; rintro e V1 ⟨rfl, hb1, hz1, hs1⟩; have B1 := Lib.hid hb1; have S1 := Lib.hid hs1; clear hb1 hz1 hs1) | (go_at_call 52; refine (l03Number_any _ 0 (by omega) _ S1.out).mono ?_; rintro e V2 ⟨⟨x, hx, rfl⟩, hb2, hz2, hs2⟩; have B2 := Lib.hid hb2; clear hb2 hz2 hs2))
  go_ret
  exact ⟨⟨x, hx, rfl⟩, B1.out.trans B2.out.1⟩
end Go.Proofs.Ythklihenghnaeaa
