/- The law FnExactWithImages of this commit: for every input the call returns true, and each argument reads afterwards as it read before. Condition: none. -/
import Derived.Test.YtdhgehmnjoclaaaLawWi
import Derived.Test.YtdhgehmnjoclaaaLiftS
import Derived.Test.YtdhgehmnjoclaaaPl
namespace Go.Proofs.Ytdhgehmnjoclaaa
open Go Go.ChangeShapes Go.WideShapes Go.ChangeAt Go.RowKit
set_option linter.unusedSimpArgs false
set_option linter.unusedVariables false
theorem okW_W3 {e : W3} (h : okW e) : okW3 e := by
  obtain ⟨h1, h2, h3⟩ := h
  simp only [Lit.wf, IntKind.min, IntKind.max, IntKind.bits, IntKind.signed, Bool.and_eq_true, decide_eq_true_eq] at h1 h2
  simp at h1 h2
  exact ⟨h1, h2⟩
set_option maxRecDepth 100000 in
theorem fnExactWithImages_walk (H : Type) (enc : TypeId × Value → H) (W : World) (base : Nat) (args : Array Value) (ds : List (DataW H)) (ps : List MemPlace) (hn : args.size = Try.f3.params.size)
    (hv : ∀ (j : Nat) t v, Try.f3.params[j]? = some t → args[j]? = some v → Value.okWide Try.prog W .any base t v)
    (hA : DataW.TrodAll enc Try.prog W 0 (fun _ => true) true Try.f3.params.toList args.toList ds ps) :
    Calls Try.prog 3 args W fun e W' => e = .returned (.bool true) ∧ Below W.heap.size W W' := by
  rw [Try.params3] at hn hv hA
  obtain ⟨l⟩ := args
  match l, hn with
  | [v0, v1, v2], _ =>
    obtain ⟨u0, us, d0, ds', a0, a1, he, _, _, h0, h1⟩ := trodAll_cons hA
    cases he
    obtain ⟨y, rfl, hy1, hy2⟩ := okWide_i64 (hv 1 _ v1 rfl rfl)
    obtain ⟨r, rfl⟩ := okWide_bool Try.underlying4 (hv 2 _ v2 rfl rfl)
    obtain ⟨p, c, L, rfl, hL, hp, hok⟩ := open_ws (okWide_slice Try.underlying22 (hv 0 _ v0 rfl rfl)) h0
    by_cases h1 : L.length ≤ 1048576
    · exact fnExactWithImages_near p c L y r h1 (fun e he => okW_W3 (hok e he)) W hp
    · exact fnExactWithImages_far p _ c y r (by omega) hL W

set_option maxRecDepth 100000 in
theorem fnExactWithImages_holds : Rows.FnExactWithImagesSaid :=
  OpenClaim.holds_of_wide 3 Try.f3 rfl rfl rfl rfl rfl rfl rfl ⟨rfl, rfl, rfl, rfl, rfl⟩ rfl rfl rfl rfl rfl (by kernel_rfl) Try.func3 (by kernel_rfl)
    (of_decide_eq_true (by kernel_rfl)) (by unfold Func.isWrapper; first | (rw [if_pos (by decide +kernel)]; kernel_rfl) | (rw [if_neg (by decide +kernel)]; exact ⟨rfl, rfl⟩))
    (fun os started H enc _ => liftS 3 Try.f3 Rows.fnExactWithImagesSpec Try.func3 rfl rfl
      (fun H ds h => match ds, h with | [d0, d1, d2], _ => rfl)
      (by rw [Try.params3]; exact (by decide +kernel))
      fnExactWithImages_walk os started H enc (by kernel_rfl)
      (ChangeSpec.witness6 (enc := enc) (C := Try.checked) false ⟨#[], #[.slice none 0 0, .int .i64 0, .bool false], []⟩ 16 (by kernel_rfl) (by kernel_rfl) (by kernel_rfl) (by kernel_rfl)))
#print axioms fnExactWithImages_holds
end Go.Proofs.Ytdhgehmnjoclaaa
