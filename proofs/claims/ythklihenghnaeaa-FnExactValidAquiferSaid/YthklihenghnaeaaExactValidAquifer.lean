/- The law FnExactValidAquifer of this commit: for every input the call returns true, and each argument reads afterwards as it read before. Condition: none. -/
import Derived.Test.YthklihenghnaeaaLiftB
import Derived.Test.YthklihenghnaeaaStr
namespace Go.Proofs.Ythklihenghnaeaa
open Go.ChangeShapes Go.WideShapes Go.ChangeAt Go.RowKit
set_option linter.unusedSimpArgs false
set_option linter.unusedVariables false

set_option maxRecDepth 100000 in
set_option maxHeartbeats 1000000 in
theorem specAq_any (T S : Nat) (w : World) : Calls Try.prog 25 #[.agg (Aq T S)] w fun e w' => e = .returned (.bool (aqB T S)) ∧ Below w.heap.size w w' := by
  have B0 : Below w.heap.size w (w.alloc (.cells #[.float .f32 T, .float .f32 S] 26)) := below_a _ _ w
  have H := l03Aq_any T S (w.alloc (.cells #[.float .f32 T, .float .f32 S] 26))
  simp only [Aq] at H ⊢
  go_enter Try.func25, Try.ntmps25
  go_wp2_with (go_at_call 62; refine H.mono ?_; clear H; rintro e V ⟨rfl, hq⟩; have Q := Lib.hid (B0.trans (hq.mono B0.size)); clear hq)
  go_ret
  exact ⟨rfl, Q.out⟩

set_option maxRecDepth 100000 in
set_option maxHeartbeats 1000000 in
theorem fnExactValidAquifer_calls (T S : Nat) (hT : T < 4294967296) (hS : S < 4294967296) (w : World) : Calls Try.prog 4 #[.agg (Aq T S)] w fun e w' => e = .returned (.bool true) ∧ Below w.heap.size w w' := by
  obtain ⟨o, hB⟩ : ∃ o, aqB T S = o := ⟨_, rfl⟩
  have B0 : Below w.heap.size w (w.alloc (.cells #[.float .f32 T, .float .f32 S] 42)) := below_a _ _ w
  have C0 : ∀ V, Below (w.alloc (.cells #[.float .f32 T, .float .f32 S] 42)).heap.size (w.alloc (.cells #[.float .f32 T, .float .f32 S] 42)) V → V.cell? ⟨w.heap.size, 0, none⟩ = some (.float .f32 T) := fun V hV => (hV.cell (p := ⟨w.heap.size, 0, none⟩) (by simp)).trans (cell_of_row _ _ 0 _ _ _ (heap_alloc_last w _))
  have C1 : ∀ V, Below (w.alloc (.cells #[.float .f32 T, .float .f32 S] 42)).heap.size (w.alloc (.cells #[.float .f32 T, .float .f32 S] 42)) V → V.cell? ⟨w.heap.size, 1, none⟩ = some (.float .f32 S) := fun V hV => (hV.cell (p := ⟨w.heap.size, 1, none⟩) (by simp)).trans (cell_of_row _ _ 1 _ _ _ (heap_alloc_last w _))
  have T0 := fun V => toAquifer_any T S V
  have T1 := fun V => specAq_any T S V
  have T2 := fun V => implAq_any T S V
  simp only [hB] at T1 T2
  simp only [Aq] at T0 T1 T2 ⊢
  go_enter Try.func4, Try.ntmps4
  have t1 : True := trivial
  go_wp2_with (first | (have _t := t1; go_at_call 26; refine (T0 _).mono ?_; rintro e V1 ⟨rfl, hq1⟩; have Q1 := Lib.hid hq1; clear hq1 t1) | (go_at_call 25; refine (T1 _).mono ?_; rintro e V2 ⟨rfl, hq2⟩; have Q2 := Lib.hid (Q1.out.trans (hq2.mono Q1.out.size)); clear hq2; have c0 := C0 V2 Q2.out; have c1 := C1 V2 Q2.out) | (go_at_call 26; refine (T0 _).mono ?_; rintro e V3 ⟨rfl, hq3⟩; have Q3 := Lib.hid (Q2.out.trans (hq3.mono Q2.out.size)); clear hq3) | (go_at_call 27; refine (T2 _).mono ?_; rintro e V4 ⟨rfl, hq4⟩; have Q4 := Lib.hid (Q3.out.trans (hq4.mono Q3.out.size)); clear hq4))
  go_ret
  exact ⟨rfl, B0.trans (Q4.out.mono B0.size)⟩

set_option maxRecDepth 100000 in
theorem fnExactValidAquifer_walk (W : World) (base : Nat) (args : Array Value) (hn : args.size = Try.f4.params.size)
    (hv : ∀ (j : Nat) t v, Try.f4.params[j]? = some t → args[j]? = some v → Value.okWide Try.prog W .any base t v) :
    Calls Try.prog 4 args W fun e W' => e = .returned (.bool true) ∧ Below W.heap.size W W' := by
  rw [Try.params4] at hn hv
  obtain ⟨l⟩ := args
  match l, hn with
  | [v0], _ =>
    obtain ⟨T, S, rfl, hT, hS⟩ := okWide_aq (hv 0 _ v0 rfl rfl)
    exact fnExactValidAquifer_calls T S hT hS W

set_option maxRecDepth 100000 in
theorem fnExactValidAquifer_holds : Rows.FnExactValidAquiferSaid :=
  OpenClaim.holds_of_wide 4 Try.f4 rfl rfl rfl rfl rfl rfl rfl ⟨rfl, rfl, rfl, rfl, rfl⟩ rfl rfl rfl rfl rfl (by kernel_rfl) Try.func4 (by kernel_rfl)
    (of_decide_eq_true (by kernel_rfl)) (by unfold Func.isWrapper; first | (rw [if_pos (by decide +kernel)]; kernel_rfl) | (rw [if_neg (by decide +kernel)]; exact ⟨rfl, rfl⟩))
    (fun os started H enc _ => lift 4 Try.f4 Rows.fnExactValidAquiferSpec Try.func4 rfl rfl
      (fun H ds h => match ds, h with | [d0], _ => rfl)
      (by rw [Try.params4]; exact (by decide +kernel))
      fnExactValidAquifer_walk os started H enc (by kernel_rfl)
      (ChangeSpec.witness6 (enc := enc) (C := Try.checked) false ⟨#[], #[.agg #[.float .f32 0, .float .f32 0]], []⟩ 16 (by kernel_rfl) (by kernel_rfl) (by kernel_rfl) (by kernel_rfl)))
#print axioms fnExactValidAquifer_holds
end Go.Proofs.Ythklihenghnaeaa
