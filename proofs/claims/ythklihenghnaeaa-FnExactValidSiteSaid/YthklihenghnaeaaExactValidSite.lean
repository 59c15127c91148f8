/- The law FnExactValidSite of this commit: for every input the call returns true, and each argument reads afterwards as it read before. Condition: none. -/
import Derived.Test.YthklihenghnaeaaLiftB
import Derived.Test.YthklihenghnaeaaSt
namespace Go.Proofs.Ythklihenghnaeaa
open Go Go.ChangeShapes Go.WideShapes Go.ChangeAt Go.RowKit
set_option linter.unusedSimpArgs false
set_option linter.unusedVariables false

set_option maxRecDepth 100000 in
set_option maxHeartbeats 2000000 in
theorem fnExactValidSite_calls (X Y : Int) (R : Nat) (x y : Int) (hX : -128 ≤ X ∧ X ≤ 127) (hY : -128 ≤ Y ∧ Y ≤ 127) (hx : -128 ≤ x ∧ x ≤ 127) (hy : -128 ≤ y ∧ y ≤ 127) (w : World) : Calls Try.prog 14 #[.agg (Ste X Y R x y)] w fun e w' => e = .returned (.bool true) ∧ Below w.heap.size w w' := by
  obtain ⟨o, hB⟩ : ∃ o, stB X Y R x y = o := ⟨_, rfl⟩
  have B0 : Below w.heap.size w (w.alloc (.cells #[.int .i8 X, .int .i8 Y, .float .f32 R, .int .i8 x, .int .i8 y] 73)) := (Below.refl _ _).alloc (Nat.le_refl _) _
  have C0 : ∀ V, Below (w.alloc (.cells #[.int .i8 X, .int .i8 Y, .float .f32 R, .int .i8 x, .int .i8 y] 73)).heap.size (w.alloc (.cells #[.int .i8 X, .int .i8 Y, .float .f32 R, .int .i8 x, .int .i8 y] 73)) V → V.cell? ⟨w.heap.size, 0, none⟩ = some (.int .i8 X) := fun V hV => (hV.cell (p := ⟨w.heap.size, 0, none⟩) (by simp)).trans (cell_of_row _ _ 0 _ _ _ (heap_alloc_last w _))
  have C1 : ∀ V, Below (w.alloc (.cells #[.int .i8 X, .int .i8 Y, .float .f32 R, .int .i8 x, .int .i8 y] 73)).heap.size (w.alloc (.cells #[.int .i8 X, .int .i8 Y, .float .f32 R, .int .i8 x, .int .i8 y] 73)) V → V.cell? ⟨w.heap.size, 1, none⟩ = some (.int .i8 Y) := fun V hV => (hV.cell (p := ⟨w.heap.size, 1, none⟩) (by simp)).trans (cell_of_row _ _ 1 _ _ _ (heap_alloc_last w _))
  have C2 : ∀ V, Below (w.alloc (.cells #[.int .i8 X, .int .i8 Y, .float .f32 R, .int .i8 x, .int .i8 y] 73)).heap.size (w.alloc (.cells #[.int .i8 X, .int .i8 Y, .float .f32 R, .int .i8 x, .int .i8 y] 73)) V → V.cell? ⟨w.heap.size, 2, none⟩ = some (.float .f32 R) := fun V hV => (hV.cell (p := ⟨w.heap.size, 2, none⟩) (by simp)).trans (cell_of_row _ _ 2 _ _ _ (heap_alloc_last w _))
  have C3 : ∀ V, Below (w.alloc (.cells #[.int .i8 X, .int .i8 Y, .float .f32 R, .int .i8 x, .int .i8 y] 73)).heap.size (w.alloc (.cells #[.int .i8 X, .int .i8 Y, .float .f32 R, .int .i8 x, .int .i8 y] 73)) V → V.cell? ⟨w.heap.size, 3, none⟩ = some (.int .i8 x) := fun V hV => (hV.cell (p := ⟨w.heap.size, 3, none⟩) (by simp)).trans (cell_of_row _ _ 3 _ _ _ (heap_alloc_last w _))
  have C4 : ∀ V, Below (w.alloc (.cells #[.int .i8 X, .int .i8 Y, .float .f32 R, .int .i8 x, .int .i8 y] 73)).heap.size (w.alloc (.cells #[.int .i8 X, .int .i8 Y, .float .f32 R, .int .i8 x, .int .i8 y] 73)) V → V.cell? ⟨w.heap.size, 4, none⟩ = some (.int .i8 y) := fun V hV => (hV.cell (p := ⟨w.heap.size, 4, none⟩) (by simp)).trans (cell_of_row _ _ 4 _ _ _ (heap_alloc_last w _))
  have T0 := fun V => toSite_any X Y R x y V
  have T1 := fun V => specSite_any X Y R x y hX hY hx hy V
  have T2 := fun V => validSite_any X Y R x y hX hY hx hy V
  simp only [hB] at T1 T2
  simp only [Ste] at T0 T1 T2 ⊢
  clear hB
  have t1 : True := trivial
  go_enter Try.func14, Try.ntmps14
  go_wp2_with (first | (have _t := t1; go_at_call 48; refine (T0 _).mono ?_; rintro e V1 ⟨rfl, hq1⟩; have Q1 := Lib.hid hq1; clear hq1 t1) | (go_at_call 47; refine (T1 _).mono ?_; rintro e V2 ⟨rfl, hq2⟩; have Q2 := Lib.hid (Q1.out.trans (hq2.mono Q1.out.size)); clear hq2; have c0 := C0 V2 Q2.out; have c1 := C1 V2 Q2.out; have c2 := C2 V2 Q2.out; have c3 := C3 V2 Q2.out; have c4 := C4 V2 Q2.out) | (go_at_call 48; refine (T0 _).mono ?_; rintro e V3 ⟨rfl, hq3⟩; have Q3 := Lib.hid (Q2.out.trans (hq3.mono Q2.out.size)); clear hq3) | (go_at_call 49; refine (T2 _).mono ?_; rintro e V4 ⟨rfl, hq4⟩; have Q4 := Lib.hid (Q3.out.trans (hq4.mono Q3.out.size)); clear hq4))
  go_ret
  exact ⟨rfl, B0.trans (Q4.out.mono B0.size)⟩

set_option maxRecDepth 100000 in
theorem fnExactValidSite_walk (W : World) (base : Nat) (args : Array Value) (hn : args.size = Try.f14.params.size)
    (hv : ∀ (j : Nat) t v, Try.f14.params[j]? = some t → args[j]? = some v → Value.okWide Try.prog W .any base t v) :
    Calls Try.prog 14 args W fun e W' => e = .returned (.bool true) ∧ Below W.heap.size W W' := by
  rw [Try.params14] at hn hv
  obtain ⟨l⟩ := args
  match l, hn with
  | [v0], _ =>
    obtain ⟨X, Y, R, x, y, rfl, hX, hY, _, hx, hy⟩ := okWide_st (hv 0 _ v0 rfl rfl)
    exact fnExactValidSite_calls X Y R x y hX hY hx hy W

set_option maxRecDepth 100000 in
theorem fnExactValidSite_holds : Rows.FnExactValidSiteSaid :=
  OpenClaim.holds_of_wide 14 Try.f14 rfl rfl rfl rfl rfl rfl rfl ⟨rfl, rfl, rfl, rfl, rfl⟩ rfl rfl rfl rfl rfl (by kernel_rfl) Try.func14 (by kernel_rfl)
    (of_decide_eq_true (by kernel_rfl)) (by unfold Func.isWrapper; first | (rw [if_pos (by decide +kernel)]; kernel_rfl) | (rw [if_neg (by decide +kernel)]; exact ⟨rfl, rfl⟩))
    (fun os started H enc _ => lift 14 Try.f14 Rows.fnExactValidSiteSpec Try.func14 rfl rfl
      (fun H ds h => match ds, h with | [d0], _ => rfl)
      (by rw [Try.params14]; exact (by decide +kernel))
      fnExactValidSite_walk os started H enc (by kernel_rfl)
      (ChangeSpec.witness6 (enc := enc) (C := Try.checked) false ⟨#[], #[.agg (Ste 0 0 0 0 0)], []⟩ 16 (by kernel_rfl) (by kernel_rfl) (by kernel_rfl) (by kernel_rfl)))
#print axioms fnExactValidSite_holds
end Go.Proofs.Ythklihenghnaeaa
