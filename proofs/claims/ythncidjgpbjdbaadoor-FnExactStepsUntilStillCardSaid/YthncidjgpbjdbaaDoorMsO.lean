/- The model's sweep of a colour, or in order. No condition. -/
import Derived.Test.YthncidjgpbjdbaaDoorMs
namespace Go.Proofs.YthncidjgpbjdbaaDoor
open Go.RowKit Go.Shelf
attribute [local go_sem] Oper.semAt_some run_store_float
set_option linter.unusedSimpArgs false
set_option linter.unusedVariables false

/-- Is a cell of the colour? All are, if it is less than 0. -/
def colB (c : Int) (k : Nat) : Bool := decide (c < 0) || decide ((((k % 8 + k / 8) % 2 : Nat) : Int) = c)
/-- The next head in a sweep of a colour. -/
def nxC (c : Int) (H : Gd) (k : Nat) : Option Nat := if colB c k = true then headO H k else num .f32 (H.h k)
theorem nxC_all : nxC (-1) = headO := by
  funext H k
  simp [nxC, colB]
theorem nxC_yes {c : Int} {H : Gd} {k : Nat} (h : colB c k = true) : nxC c H k = headO H k := by simp [nxC, h]
theorem nxC_no {c : Int} {H : Gd} {k : Nat} (h : colB c k = false) : nxC c H k = num .f32 (H.h k) := by simp [nxC, h]
theorem ordV_is (G : Gd) : ∃ (A : Gd) (m : Nat) (n : Int), ordV G = .tuple #[.agg (Grd A), .float .f32 m, .int .i64 n] := by
  unfold ordV
  split
  · exact sweptV_is _ _
  · exact ⟨_, _, _, rfl⟩
theorem col_rem (k : Nat) : ((k : Int).tmod 8 + (k : Int).tdiv 8).tmod 2 = (((k % 8 + k / 8) % 2 : Nat) : Int) := by
  have e1 : (k : Int).tmod 8 = (k : Int) % 8 := Int.tmod_eq_emod_of_nonneg (by omega)
  have e2 : (k : Int).tdiv 8 = (k : Int) / 8 := Int.tdiv_eq_ediv_of_nonneg (by omega)
  rw [e1, e2, Int.tmod_eq_emod_of_nonneg (by omega)]
  omega

end Go.Proofs.YthncidjgpbjdbaaDoor
