/- The model's end of a sweep, and its StepAtOnce. No condition. -/
import Derived.Test.YthncidjgpbjdbaaDoorMod
namespace Go.Proofs.YthncidjgpbjdbaaDoor
open Go.RowKit Go.Shelf
attribute [local go_sem] Oper.semAt_some run_store_float
set_option linter.unusedSimpArgs false
set_option linter.unusedVariables false

theorem stepV_is (G : Gd) : ∃ (A : Gd) (m : Nat) (n : Int), stepV G = .tuple #[.agg (Grd A), .float .f32 m, .int .i64 n] := by
  unfold stepV
  split
  · exact sweptV_is _ _
  · exact ⟨_, _, _, rfl⟩
end Go.Proofs.YthncidjgpbjdbaaDoor
