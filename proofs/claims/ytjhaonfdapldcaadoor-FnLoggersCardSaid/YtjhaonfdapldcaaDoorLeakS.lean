/- LeakOf: the model's. No condition. -/
import Derived.Test.YtjhaonfdapldcaaDoorFlows
namespace Go.Proofs.YtjhaonfdapldcaaDoor
open Go.RowKit Go.Shelf
attribute [local go_sem] Oper.semAt_some run_store_float
set_option linter.unusedSimpArgs false
set_option linter.unusedVariables false

/-- The cells that are fixed, among the first ones. -/
def fxTo (G : Gd) (k : Nat) : List Nat := (List.range k).filter fun i => isB G i && G.x.toNat.testBit i
theorem fxTo_yes {G : Gd} {k : Nat} (h1 : isB G k = true) (h2 : G.x.toNat.testBit k = true) : fxTo G (k + 1) = fxTo G k ++ [k] := by
  unfold fxTo
  rw [List.range_succ, List.filter_append, List.filter_cons, if_pos (by rw [h1, h2]; rfl), List.filter_nil]
theorem fxTo_no {G : Gd} {k : Nat} (h : (isB G k && G.x.toNat.testBit k) = false) : fxTo G (k + 1) = fxTo G k := by
  unfold fxTo
  rw [List.range_succ, List.filter_append, List.filter_cons, if_neg (by rw [h]; decide), List.filter_nil, List.append_nil]
/-- The sum of a field's numbers over a list, beginning with the first one. -/
def sumO (f : Nat → Nat) : List Nat → Option Nat
  | [] => num .f32 0
  | a :: r => r.foldl (fun o i => fop .f32 .add o (num .f32 (f i))) (num .f32 (f a))
theorem sumO_one (f : Nat → Nat) (i : Nat) : sumO f ([] ++ [i]) = num .f32 (f i) := rfl
theorem sumO_snoc (f : Nat → Nat) (l : List Nat) (i : Nat) (h : l ≠ []) : sumO f (l ++ [i]) = fop .f32 .add (sumO f l) (num .f32 (f i)) := by
  cases l with
  | nil => exact absurd rfl h
  | cons a r => simp [sumO]
/-- What LeakOf says. -/
def leakV (G : Gd) : Value := if validB G = true then (if allFin G = true then finV (fop .f32 .sub (num .f32 0) (sumO (balF G) (fxTo G 64))) else FI 0 4) else FI 0 1
theorem leakV_is (G : Gd) : ∃ (b : Nat) (n : Int), leakV G = .tuple #[.float .f32 b, .int .i64 n] := by
  unfold leakV
  split
  · split
    · exact finV_is _
    · exact ⟨_, _, rfl⟩
  · exact ⟨_, _, rfl⟩

end Go.Proofs.YtjhaonfdapldcaaDoor
