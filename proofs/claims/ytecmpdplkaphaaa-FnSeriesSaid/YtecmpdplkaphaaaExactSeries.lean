/- The law FnSeries of this commit: for every input the call returns true, and each argument reads afterwards as it read before. Condition: none. -/
import Derived.Test.YtecmpdplkaphaaaLawSeries
namespace Go.Proofs.Ytecmpdplkaphaaa
open Go Go.ChangeShapes Go.WideShapes Go.ChangeAt Go.RowKit
set_option linter.unusedSimpArgs false
set_option linter.unusedVariables false
open Go.Deep

set_option maxRecDepth 100000 in
theorem fnSeries_walk (H : Type) (enc : TypeId × Value → H) (W : World) (base : Nat) (args : Array Value) (ds : List (DataW H)) (ps : List MemPlace) (hn : args.size = Try.f3.params.size)
    (hv : ∀ (j : Nat) t v, Try.f3.params[j]? = some t → args[j]? = some v → Value.okWide Try.prog W .any base t v)
    (hA : DataW.TrodAll enc Try.prog W 0 (fun _ => true) true Try.f3.params.toList args.toList ds ps) :
    Calls Try.prog 3 args W fun e W' => e = .returned (.bool true) ∧ Below W.heap.size W W' := by
  rw [Try.params3] at hn hv hA
  obtain ⟨l⟩ := args
  match l, hn with
  | [v0, v1], _ =>
    obtain ⟨u0, us, d0, ds', a0, a1, he, _, _, h0, h1⟩ := trodAll_cons hA
    cases he
    obtain ⟨u1, us', d1, ds'', a2, a3, he, _, _, h1, _⟩ := trodAll_cons h1
    cases he
    obtain ⟨p, n, c, rfl, hx, hp⟩ := open_bytes (okWide_slice Try.underlying22 (hv 0 _ v0 rfl rfl)) h0
    obtain ⟨q, m, d, rfl, hy, hq⟩ := open_bytes (okWide_slice Try.underlying22 (hv 1 _ v1 rfl rfl)) h1
    by_cases h1 : n ≤ 4096
    · by_cases h2 : m ≤ 4096
      · exact fnSeries_near p q n c m d h1 h2 W hp hq
      · exact fnSeries_far2 p q n c m d h1 (by omega) hy W
    · exact fnSeries_far1 p q n c m d (by omega) hx W

set_option maxRecDepth 100000 in
theorem fnSeries_holds : Rows.FnSeriesSaid :=
  OpenClaim.holds_of_wide 3 Try.f3 rfl rfl rfl rfl rfl rfl rfl ⟨rfl, rfl, rfl, rfl, rfl⟩ rfl rfl rfl rfl rfl (by kernel_rfl) Try.func3 (by kernel_rfl)
    (of_decide_eq_true (by kernel_rfl)) (by unfold Func.isWrapper; first | (rw [if_pos (by decide +kernel)]; kernel_rfl) | (rw [if_neg (by decide +kernel)]; exact ⟨rfl, rfl⟩))
    (fun os started H enc _ => liftS 3 Try.f3 Rows.fnSeriesSpec Try.func3 rfl rfl
      (fun H ds h => match ds, h with | [d0, d1], _ => rfl)
      (by rw [Try.params3]; exact (by decide +kernel))
      fnSeries_walk os started H enc (by kernel_rfl)
      (ChangeSpec.witness6 (enc := enc) (C := Try.checked) false ⟨#[], #[.slice none 0 0, .slice none 0 0], []⟩ 16 (by kernel_rfl) (by kernel_rfl) (by kernel_rfl) (by kernel_rfl)))
#print axioms fnSeries_holds
end Go.Proofs.Ytecmpdplkaphaaa
