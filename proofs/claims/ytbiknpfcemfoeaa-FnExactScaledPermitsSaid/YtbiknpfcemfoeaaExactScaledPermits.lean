/- The law FnExactScaledPermits of this commit: for every input the call returns true, and each argument reads afterwards as it read before. Condition: none. -/
import Derived.Test.YtbiknpfcemfoeaaLawSc
import Derived.Test.YtbiknpfcemfoeaaLiftS
import Derived.Test.YtbiknpfcemfoeaaPl
namespace Go.Proofs.Ytbiknpfcemfoeaa
open Go Go.ChangeShapes Go.WideShapes Go.ChangeAt Go.RowKit
set_option linter.unusedSimpArgs false
set_option linter.unusedVariables false
theorem okP_P3' {e : P3} (h : okP e) : okP3 e := by
  obtain ⟨h1, h2, h3⟩ := h
  simp only [Lit.wf, IntKind.min, IntKind.max, IntKind.bits, IntKind.signed, Bool.and_eq_true, decide_eq_true_eq] at h1 h2 h3
  simp at h1 h2 h3
  exact ⟨h1, h2, h3⟩
set_option maxRecDepth 100000 in
theorem fnExactScaledPermits_walk (H : Type) (enc : TypeId × Value → H) (W : World) (base : Nat) (args : Array Value) (ds : List (DataW H)) (ps : List MemPlace) (hn : args.size = Try.f6.params.size)
    (hv : ∀ (j : Nat) t v, Try.f6.params[j]? = some t → args[j]? = some v → Value.okWide Try.prog W .any base t v)
    (hA : DataW.TrodAll enc Try.prog W 0 (fun _ => true) true Try.f6.params.toList args.toList ds ps) :
    Calls Try.prog 6 args W fun e W' => e = .returned (.bool true) ∧ Below W.heap.size W W' := by
  rw [Try.params6] at hn hv hA
  obtain ⟨l⟩ := args
  match l, hn with
  | [v0, v1], _ =>
    obtain ⟨u0, us, d0, ds', a0, a1, he, _, _, h0, h1⟩ := trodAll_cons hA
    cases he
    obtain ⟨y, rfl, hy1, hy2⟩ := okWide_i64 (hv 1 _ v1 rfl rfl)
    obtain ⟨p, c, L, rfl, hL, hp, hok⟩ := open_ps (okWide_slice Try.underlying37 (hv 0 _ v0 rfl rfl)) h0
    by_cases h1 : L.length ≤ 1048576
    · exact fnExactScaledPermits_near p c L y ⟨hy1, hy2⟩ h1 (fun e he => okP_P3' (hok e he)) W hp
    · exact fnExactScaledPermits_far p _ c y (by omega) hL W

set_option maxRecDepth 100000 in
theorem fnExactScaledPermits_holds : Rows.FnExactScaledPermitsSaid :=
  OpenClaim.holds_of_wide 6 Try.f6 rfl rfl rfl rfl rfl rfl rfl ⟨rfl, rfl, rfl, rfl, rfl⟩ rfl rfl rfl rfl rfl (by kernel_rfl) Try.func6 (by kernel_rfl)
    (of_decide_eq_true (by kernel_rfl)) (by unfold Func.isWrapper; first | (rw [if_pos (by decide +kernel)]; kernel_rfl) | (rw [if_neg (by decide +kernel)]; exact ⟨rfl, rfl⟩))
    (fun os started H enc _ => liftS 6 Try.f6 Rows.fnExactScaledPermitsSpec Try.func6 rfl rfl
      (fun H ds h => match ds, h with | [d0, d1], _ => rfl)
      (by rw [Try.params6]; exact (by decide +kernel))
      fnExactScaledPermits_walk os started H enc (by kernel_rfl)
      (ChangeSpec.witness6 (enc := enc) (C := Try.checked) false ⟨#[], #[.slice none 0 0, .int .i64 0], []⟩ 16 (by kernel_rfl) (by kernel_rfl) (by kernel_rfl) (by kernel_rfl)))
#print axioms fnExactScaledPermits_holds
end Go.Proofs.Ytbiknpfcemfoeaa
