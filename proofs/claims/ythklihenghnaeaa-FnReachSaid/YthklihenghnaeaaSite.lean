/- A site that the model draws. No condition of its own. -/
import Derived.Test.YthklihenghnaeaaDraw
namespace Go.Proofs.Ythklihenghnaeaa
open Go Go.RowKit Ieee
set_option linter.unusedSimpArgs false
set_option linter.unusedVariables false
attribute [local go_sem] run_store_f32

def rtV (i : Nat) : Nat := qv (1 + (i : Nat) : Int) 1090519040
theorem rt_ok : ∀ i, i < 900 → fop .f32 .quo (num .f32 (floatOfInt .f32 (1 + (i : Nat) : Int))) (num .f32 1090519040) = some (rtV i) := by
  decide +kernel
def Si (X Y : Int) (R : Nat) (x y : Int) : Array Value := #[.int .i8 X, .int .i8 Y, .float .f32 R, .int .i8 x, .int .i8 y]
/-- What the walk knows behind a question: the source, the result's cells, how much memory there is. -/
theorem step_src {b k z : Nat} {V V' : World} {C : Obj} (h : Only b V V') (hz : V'.heap.size = V.heap.size) (hb : z ≠ b) (hc : V.heap[z]? = some C) : V'.heap[z]? = some C := (h.2 z hb).trans hc

theorem results_agg {P : Program} {fn : Func} {p : Tmp} {ty : TypeId} {D : TypeDesc} (h : fn.results = #[.cell p ty]) (tmps : Array Value) (w : World) (b : Nat) (cs : Array Value)
    (hp : tmps.getD p undef = .pointer (some ⟨b, 0, none⟩)) (hc : w.rangeAt b 0 cs.toList) (hu : P.underlying ty = some D) (hd : D.isRow = true) (hi : (P.info? ty).map (·.size) = some cs.toList.length) :
    (results fn tmps).run P w = .ok (.agg cs) w := by
  have hp' : tmps[p]?.getD undef = .pointer (some ⟨b, 0, none⟩) := by simpa using hp
  have := run_loadVar_mid (P := P) w b 0 ty cs.toList D hc hu hd hi
  simp [results, h, hp', asAddr, this]
theorem SrcAt.keep {w w' : World} {b k : Nat} (h : SrcAt w b k) (hB : Below (b + 1) w w') : SrcAt w' b k := by
  obtain ⟨p, n, c, a, s, hb, hn, ha, h0, h1, hx⟩ := h
  exact ⟨p, n, c, a, s, (hB.block b (Nat.lt_succ_self _)).trans hb, hn, ha, h0, h1, hx.below (hB.mono (Nat.le_succ _))⟩
set_option maxRecDepth 100000 in
set_option maxHeartbeats 2000000 in
theorem P6Site_any (p : Option Addr) (n c : Nat) (hn : n ≤ maxLen) (w : World) (h : BytesAt w w.heap.size p n) :
    Calls Try.prog 17 #[.slice p n c] w fun e w' => (∃ a b i x y : Nat, a < 6 ∧ b < 6 ∧ i < 900 ∧ x < 10 ∧ y < 10 ∧ e = .returned (.agg (Si a b (rtV i) x y))) ∧ Below w.heap.size w w' := by
  have hB0 : Below w.heap.size w (w.alloc (.cells #[.int .i8 0, .int .i8 0, .float .f32 0, .int .i8 0, .int .i8 0] 32)) := (Below.refl _ _).alloc (Nat.le_refl _) _
  have T0 := l00From_any p n c hn _ (h.at' hB0)
  have hz : (w.alloc (.cells #[.int .i8 0, .int .i8 0, .float .f32 0, .int .i8 0, .int .i8 0] 32)).heap.size = w.heap.size + 1 := by simp
  have K0 := Lib.hid (heap_alloc_last w (.cells #[.int .i8 0, .int .i8 0, .float .f32 0, .int .i8 0, .int .i8 0] 32))
  have BW := Lib.hid hB0
  rw [hz] at T0
  clear h hB0 hz
  have t1 : True := trivial
  have t2 : True := trivial
  have t3 : True := trivial
  have t4 : True := trivial
  have t5 : True := trivial
  have t6 : True := trivial
  simp only [Si]
  go_enter Try.func17, Try.ntmps17
  go_upto_region 3 with (first
    | (have _t := t1; go_at_call 50; refine T0.mono ?_; rintro e V1 ⟨rfl, hb1, hz1, hs1⟩; have S1 := Lib.hid hs1; have Z1 := Lib.hid hz1; have K1 := Lib.hid ((hb1.block w.heap.size (by omega)).trans K0.out); have B1 := Lib.hid hb1; clear hb1 hz1 hs1 T0 t1)
    | (have _t := t2; go_at_call 51; refine (pick_any _ 0 6 (by omega) (by omega) (by omega) _ S1.out).mono ?_; rintro e V2 ⟨⟨a, ha, rfl⟩, hb2, hz2, hs2⟩; have S2 := Lib.hid hs2; have Z2 := Lib.hid (hz2.trans Z1.out); have K2 := Lib.hid ((hb2.2 w.heap.size (by omega)).trans K1.out); have B2 := Lib.hid (B1.out.trans hb2.1); have a1 : (a : Int) ≤ 127 := (by omega); clear hb2 hz2 hs2 S1 Z1 K1 B1 t2)
    | (have _t := t3; go_at_call 51; refine (pick_any _ 2 6 (by omega) (by omega) (by omega) _ S2.out).mono ?_; rintro e V3 ⟨⟨b, hb, rfl⟩, hb2, hz2, hs2⟩; have S3 := Lib.hid hs2; have Z3 := Lib.hid (hz2.trans Z2.out); have K3 := Lib.hid ((hb2.2 w.heap.size (by omega)).trans K2.out); have B3 := Lib.hid (B2.out.trans hb2.1); have b1 : (b : Int) ≤ 127 := (by omega); clear hb2 hz2 hs2 S2 Z2 K2 B2 t3)
    | (have _t := t4; go_at_call 51; refine (pick_any _ 4 900 (by omega) (by omega) (by omega) _ S3.out).mono ?_; rintro e V4 ⟨⟨i, hi, rfl⟩, hb2, hz2, hs2⟩; have S4 := Lib.hid hs2; have Z4 := Lib.hid (hz2.trans Z3.out); have z4 := Z4.out; have K4 := Lib.hid ((hb2.2 w.heap.size (by omega)).trans K3.out); have B4 := Lib.hid (B3.out.trans hb2.1); have hf1 := rt_ok i hi; have F1 := Lib.hid hf1; clear hb2 hz2 hs2 hf1 S3 Z3 K3 B3 t4)
    | (refine wpList_floatD rfl _ _ _ _ _ rfl rfl .f32 _ _ _ rfl rfl F1.out ?_))
  obtain ⟨U, hU⟩ : ∃ U, V4.alloc (.cells #[.int .i8 (a : Int), .int .i8 (b : Int), .float .f32 (rtV i), .int .i8 0, .int .i8 0] 32) = U := ⟨_, rfl⟩
  rw [hU]
  have BU : Below (w.heap.size + 1 + 1) V4 U := by rw [← hU]; exact (Below.refl _ _).alloc (by rw [Z4.out]; exact Nat.le_refl _) _
  have L0 : U.heap[w.heap.size + 1 + 1]? = some (.cells #[.int .i8 (a : Int), .int .i8 (b : Int), .float .f32 (rtV i), .int .i8 0, .int .i8 0] 32 (0, 0)) := by rw [← hU, ← Z4.out]; exact heap_alloc_last V4 _
  have S5 := Lib.hid (S4.out.keep BU)
  have K5 := Lib.hid ((BU.block w.heap.size (by omega)).trans K4.out)
  have L5 := Lib.hid L0
  have B5 := Lib.hid (B4.out.trans (BU.mono (by omega)))
  clear hU BU L0 S4 K4 B4 Z4 z4 F1
  go_upto_region 4 with (have _t := t5; go_at_call 51; refine (pick_any _ 6 10 (by omega) (by omega) (by omega) _ S5.out).mono ?_; rintro e V5 ⟨⟨x, hx, rfl⟩, hb2, hz2, hs2⟩; have S6 := Lib.hid hs2; have K6 := Lib.hid ((hb2.2 w.heap.size (by omega)).trans K5.out); have L6 := Lib.hid ((hb2.2 (w.heap.size + 1 + 1) (by omega)).trans L5.out); have B6 := Lib.hid (B5.out.trans hb2.1); have c3 : V5.cell? ⟨w.heap.size + 1 + 1, 3, none⟩ = some (.int .i8 0) := (cell_of_row V5 _ 3 _ _ _ L6.out); have f3 := frozen_of_row V5 (w.heap.size + 1 + 1) 3 _ _ L6.out; have x1 : (x : Int) ≤ 127 := (by omega); clear hb2 hz2 hs2 S5 K5 L5 B5 t5)
  obtain ⟨U5, hU5⟩ : ∃ U5, V5.setCell ⟨w.heap.size + 1 + 1, 3, none⟩ (.int .i8 (x : Int)) = U5 := ⟨_, rfl⟩
  rw [hU5]
  have BU : Below (w.heap.size + 1 + 1) V5 U5 := by rw [← hU5]; exact (Below.refl _ _).setCell (p := ⟨w.heap.size + 1 + 1, 3, none⟩) (Nat.le_refl _) _
  have L0 : U5.heap[w.heap.size + 1 + 1]? = some (.cells #[.int .i8 (a : Int), .int .i8 (b : Int), .float .f32 (rtV i), .int .i8 (x : Int), .int .i8 0] 32 (0, 0)) := by rw [← hU5]; exact heap_setCell_same V5 (w.heap.size + 1 + 1) 3 _ _ _ L6.out
  have S7 := Lib.hid (S6.out.keep BU)
  have K7 := Lib.hid ((BU.block w.heap.size (by omega)).trans K6.out)
  have L7 := Lib.hid L0
  have B7 := Lib.hid (B6.out.trans (BU.mono (by omega)))
  clear hU5 BU L0 S6 K6 L6 B6 c3 f3
  go_upto_region 5 with (have _t := t6; go_at_call 51; refine (pick_any _ 8 10 (by omega) (by omega) (by omega) _ S7.out).mono ?_; rintro e V6 ⟨⟨y, hy, rfl⟩, hb2, hz2, hs2⟩; have K8 := Lib.hid ((hb2.2 w.heap.size (by omega)).trans K7.out); have L8 := Lib.hid ((hb2.2 (w.heap.size + 1 + 1) (by omega)).trans L7.out); have B8 := Lib.hid (B7.out.trans hb2.1); have c4 : V6.cell? ⟨w.heap.size + 1 + 1, 4, none⟩ = some (.int .i8 0) := (cell_of_row V6 _ 4 _ _ _ L8.out); have f4 := frozen_of_row V6 (w.heap.size + 1 + 1) 4 _ _ L8.out; have y1 : (y : Int) ≤ 127 := (by omega); clear hb2 hz2 hs2 S7 K7 L7 B7 t6)
  obtain ⟨U6, hU6⟩ : ∃ U6, V6.setCell ⟨w.heap.size + 1 + 1, 4, none⟩ (.int .i8 (y : Int)) = U6 := ⟨_, rfl⟩
  rw [hU6]
  have BU : Below (w.heap.size + 1 + 1) V6 U6 := by rw [← hU6]; exact (Below.refl _ _).setCell (p := ⟨w.heap.size + 1 + 1, 4, none⟩) (Nat.le_refl _) _
  have L0 : U6.heap[w.heap.size + 1 + 1]? = some (.cells #[.int .i8 (a : Int), .int .i8 (b : Int), .float .f32 (rtV i), .int .i8 (x : Int), .int .i8 (y : Int)] 32 (0, 0)) := by rw [← hU6]; exact heap_setCell_same V6 (w.heap.size + 1 + 1) 4 _ _ _ L8.out
  have K9 := (BU.block w.heap.size (by omega)).trans K8.out
  have RL := Lib.hid (rangeAt_row L0)
  have TK := Lib.hid (there_row K9 rfl)
  have B9 := Lib.hid (BW.out.trans ((B8.out.mono (by omega)).trans (BU.mono (by omega))))
  clear hU6 BU L0 K8 L8 B8 c4 f4 K9
  go_wp2_with (first
    | (refine wpList_load_mid rfl 32 _ rfl (w.heap.size + 1 + 1) 0 rfl _ _ RL.out Try.underlying32 rfl (by kernel_rfl) ?_)
    | (refine wpList_store_mid rfl 32 _ _ rfl w.heap.size 0 #[.int .i8 (a : Int), .int .i8 (b : Int), .float .f32 (rtV i), .int .i8 (x : Int), .int .i8 (y : Int)] rfl rfl TK.out (by kernel_rfl) (by simp [Value.oneCell']) ?_))
  refine bodyPost_ret (results_agg rfl _ _ w.heap.size #[.int .i8 (a : Int), .int .i8 (b : Int), .float .f32 (rtV i), .int .i8 (x : Int), .int .i8 (y : Int)] rfl (World.rangeAt_setCells_same U6 w.heap.size 0 [.int .i8 (a : Int), .int .i8 (b : Int), .float .f32 (rtV i), .int .i8 (x : Int), .int .i8 (y : Int)] TK.out) Try.underlying32 rfl (by kernel_rfl)) rfl ⟨⟨a, ha, b, hb, i, hi, x, hx, y, hy, rfl⟩, ?_⟩
  exact below_setCells _ (Nat.le_refl _) _ _ _ B9.out
end Go.Proofs.Ythklihenghnaeaa
