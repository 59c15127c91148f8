/- SweepColour: the program's and the model's. (The program's: the table of math/bits is laid.) No condition. -/
import Derived.Test.YtaghnminpfgdcaaGreatDoorMsO
namespace Go.Proofs.YtaghnminpfgdcaaGreatDoor
open Go.RowKit Go.Shelf
attribute [local go_sem] Oper.semAt_some run_store_float
set_option linter.unusedSimpArgs false
set_option linter.unusedVariables false

/-- What the sweep of a colour hands back. -/
def colV (G : Gd) (c : Int) : Value := if validB G = true then (if c = 0 ∨ c = 1 then sweptV (nxC c) G else .tuple #[.agg (Grd zG), .float .f32 0, .int .i64 2]) else .tuple #[.agg (Grd zG), .float .f32 0, .int .i64 1]
theorem colV_is (G : Gd) (c : Int) : ∃ (A : Gd) (m : Nat) (n : Int), colV G c = .tuple #[.agg (Grd A), .float .f32 m, .int .i64 n] := by
  unfold colV
  split
  · split
    · exact sweptV_is _ _
    · exact ⟨_, _, _, rfl⟩
  · exact ⟨_, _, _, rfl⟩

set_option maxRecDepth 100000 in
set_option maxHeartbeats 2000000 in
theorem l00InG_is (n a b : Int) (r : Bool) (h : (decide (a ≤ n) && decide (n ≤ b)) = r) (w : World) : Calls Tryz.prog 110 #[.int .i64 n, .int .i64 a, .int .i64 b] w fun e w' => e = .returned (.bool r) ∧ w = w' := by
  subst h
  by_cases h1 : a ≤ n
  · by_cases h2 : n ≤ b
    · rw [show (decide (a ≤ n) && decide (n ≤ b)) = true by simp [h1, h2]]
      go_enter Tryz.func110, Tryz.ntmps110
      go_wp2
      go_ret
      exact ⟨rfl, rfl⟩
    · rw [show (decide (a ≤ n) && decide (n ≤ b)) = false by simp [h2]]
      go_enter Tryz.func110, Tryz.ntmps110
      go_wp2
      go_ret
      exact ⟨rfl, rfl⟩
  · rw [show (decide (a ≤ n) && decide (n ≤ b)) = false by simp [h1]]
    go_enter Tryz.func110, Tryz.ntmps110
    go_wp2
    go_ret
    exact ⟨rfl, rfl⟩

end Go.Proofs.YtaghnminpfgdcaaGreatDoor
