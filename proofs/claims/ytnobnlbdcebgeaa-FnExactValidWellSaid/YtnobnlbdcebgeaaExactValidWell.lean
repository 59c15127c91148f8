/- The law FnExactValidWell of this commit: for every input the call returns true, and each argument reads afterwards as it read before. Condition: none. -/
import Derived.Test.YtnobnlbdcebgeaaLiftB
import Derived.Test.YtnobnlbdcebgeaaStr
namespace Go.Proofs.Ytnobnlbdcebgeaa
open Go.ChangeShapes Go.WideShapes Go.ChangeAt Go.RowKit
set_option linter.unusedSimpArgs false
set_option linter.unusedVariables false

set_option maxRecDepth 100000 in
set_option maxHeartbeats 1000000 in
theorem specWe_any (X Y : Int) (R : Nat) (hX : -128 ≤ X ∧ X ≤ 127) (hY : -128 ≤ Y ∧ Y ≤ 127) (w : World) : Calls Try.prog 41 #[.agg (We X Y R)] w fun e w' => e = .returned (.bool (weB X Y R)) ∧ Below w.heap.size w w' := by
  have B0 : Below w.heap.size w (w.alloc (.cells #[.int .i8 X, .int .i8 Y, .float .f32 R] 37)) := below_a _ _ w
  have H := l03Ok_any X Y R hX hY (w.alloc (.cells #[.int .i8 X, .int .i8 Y, .float .f32 R] 37))
  simp only [We] at H ⊢
  go_enter Try.func41, Try.ntmps41
  go_wp2_with (go_at_call 66; refine H.mono ?_; clear H; rintro e V ⟨rfl, hq⟩; have Q := Lib.hid (B0.trans (hq.mono B0.size)); clear hq)
  go_ret
  exact ⟨rfl, Q.out⟩

set_option maxRecDepth 100000 in
set_option maxHeartbeats 1000000 in
theorem fnExactValidWell_calls (X Y : Int) (R : Nat) (hX : -128 ≤ X ∧ X ≤ 127) (hY : -128 ≤ Y ∧ Y ≤ 127) (w : World) : Calls Try.prog 7 #[.agg (We X Y R)] w fun e w' => e = .returned (.bool true) ∧ Below w.heap.size w w' := by
  obtain ⟨o, hB⟩ : ∃ o, weB X Y R = o := ⟨_, rfl⟩
  have B0 : Below w.heap.size w (w.alloc (.cells #[.int .i8 X, .int .i8 Y, .float .f32 R] 56)) := below_a _ _ w
  have C0 : ∀ V, Below (w.alloc (.cells #[.int .i8 X, .int .i8 Y, .float .f32 R] 56)).heap.size (w.alloc (.cells #[.int .i8 X, .int .i8 Y, .float .f32 R] 56)) V → V.cell? ⟨w.heap.size, 0, none⟩ = some (.int .i8 X) := fun V hV => (hV.cell (p := ⟨w.heap.size, 0, none⟩) (by simp)).trans (cell_of_row _ _ 0 _ _ _ (heap_alloc_last w _))
  have C1 : ∀ V, Below (w.alloc (.cells #[.int .i8 X, .int .i8 Y, .float .f32 R] 56)).heap.size (w.alloc (.cells #[.int .i8 X, .int .i8 Y, .float .f32 R] 56)) V → V.cell? ⟨w.heap.size, 1, none⟩ = some (.int .i8 Y) := fun V hV => (hV.cell (p := ⟨w.heap.size, 1, none⟩) (by simp)).trans (cell_of_row _ _ 1 _ _ _ (heap_alloc_last w _))
  have C2 : ∀ V, Below (w.alloc (.cells #[.int .i8 X, .int .i8 Y, .float .f32 R] 56)).heap.size (w.alloc (.cells #[.int .i8 X, .int .i8 Y, .float .f32 R] 56)) V → V.cell? ⟨w.heap.size, 2, none⟩ = some (.float .f32 R) := fun V hV => (hV.cell (p := ⟨w.heap.size, 2, none⟩) (by simp)).trans (cell_of_row _ _ 2 _ _ _ (heap_alloc_last w _))
  have T0 := fun V => toWell_any X Y R V
  have T1 := fun V => specWe_any X Y R hX hY V
  have T2 := fun V => validWell_any X Y R hX hY V
  simp only [hB] at T1 T2
  simp only [We] at T0 T1 T2 ⊢
  go_enter Try.func7, Try.ntmps7
  have t1 : True := trivial
  go_wp2_with (first | (have _t := t1; go_at_call 42; refine (T0 _).mono ?_; rintro e V1 ⟨rfl, hq1⟩; have Q1 := Lib.hid hq1; clear hq1 t1) | (go_at_call 41; refine (T1 _).mono ?_; rintro e V2 ⟨rfl, hq2⟩; have Q2 := Lib.hid (Q1.out.trans (hq2.mono Q1.out.size)); clear hq2; have c0 := C0 V2 Q2.out; have c1 := C1 V2 Q2.out; have c2 := C2 V2 Q2.out) | (go_at_call 42; refine (T0 _).mono ?_; rintro e V3 ⟨rfl, hq3⟩; have Q3 := Lib.hid (Q2.out.trans (hq3.mono Q2.out.size)); clear hq3) | (go_at_call 43; refine (T2 _).mono ?_; rintro e V4 ⟨rfl, hq4⟩; have Q4 := Lib.hid (Q3.out.trans (hq4.mono Q3.out.size)); clear hq4))
  go_ret
  exact ⟨rfl, B0.trans (Q4.out.mono B0.size)⟩

set_option maxRecDepth 100000 in
theorem fnExactValidWell_walk (W : World) (base : Nat) (args : Array Value) (hn : args.size = Try.f7.params.size)
    (hv : ∀ (j : Nat) t v, Try.f7.params[j]? = some t → args[j]? = some v → Value.okWide Try.prog W .any base t v) :
    Calls Try.prog 7 args W fun e W' => e = .returned (.bool true) ∧ Below W.heap.size W W' := by
  rw [Try.params7] at hn hv
  obtain ⟨l⟩ := args
  match l, hn with
  | [v0], _ =>
    obtain ⟨X, Y, R, rfl, hX, hY, hR⟩ := okWide_we (hv 0 _ v0 rfl rfl)
    exact fnExactValidWell_calls X Y R hX hY W

set_option maxRecDepth 100000 in
theorem fnExactValidWell_holds : Rows.FnExactValidWellSaid :=
  OpenClaim.holds_of_wide 7 Try.f7 rfl rfl rfl rfl rfl rfl rfl ⟨rfl, rfl, rfl, rfl, rfl⟩ rfl rfl rfl rfl rfl (by kernel_rfl) Try.func7 (by kernel_rfl)
    (of_decide_eq_true (by kernel_rfl)) (by unfold Func.isWrapper; first | (rw [if_pos (by decide +kernel)]; kernel_rfl) | (rw [if_neg (by decide +kernel)]; exact ⟨rfl, rfl⟩))
    (fun os started H enc _ => lift 7 Try.f7 Rows.fnExactValidWellSpec Try.func7 rfl rfl
      (fun H ds h => match ds, h with | [d0], _ => rfl)
      (by rw [Try.params7]; exact (by decide +kernel))
      fnExactValidWell_walk os started H enc (by kernel_rfl)
      (ChangeSpec.witness6 (enc := enc) (C := Try.checked) false ⟨#[], #[.agg #[.int .i8 0, .int .i8 0, .float .f32 0]], []⟩ 16 (by kernel_rfl) (by kernel_rfl) (by kernel_rfl) (by kernel_rfl)))
#print axioms fnExactValidWell_holds
end Go.Proofs.Ytnobnlbdcebgeaa
