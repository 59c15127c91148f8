/- SaltiestCell: both sides. Condition (the program's): the table of math/bits is laid. -/
import Derived.Test.YtikefaollfaejaaDoorBrSi
namespace Go.Proofs.YtikefaollfaejaaDoor
open Go.RowKit Go.Shelf
attribute [local go_sem] Oper.semAt_some run_store_float
set_option linter.unusedSimpArgs false
set_option linter.unusedVariables false

def sgtB (y x : Nat) : Bool := FloatKind.f32.format.order y x == some Ordering.gt
def satStep (B : Brn) (a i : Nat) : Nat := if sgtB (B.s i) (B.s a) = true then i else a
def satL (B : Brn) (l : List Nat) : Nat := l.foldl (satStep B) 0
theorem satL_snoc (B : Brn) (l : List Nat) (i : Nat) : satL B (l ++ [i]) = satStep B (satL B l) i := by simp [satL]
theorem satL_lt (B : Brn) (l : List Nat) (h : ∀ i ∈ l, i < 64) : satL B l < 64 := by
  suffices hs : ∀ (l : List Nat), (∀ i ∈ l, i < 64) → ∀ a, a < 64 → l.foldl (satStep B) a < 64 from hs l h 0 (by omega)
  intro l
  induction l with
  | nil => intro _ a ha; exact ha
  | cons i l ih =>
    intro h a ha
    refine ih (fun j hj => h j (by simp [hj])) _ ?_
    unfold satStep
    split
    · exact h i (by simp)
    · exact ha
theorem satL_first (B : Brn) : satL B (isL B.G 1) = 0 := by
  unfold isL satL
  cases h : isB B.G 0
  · simp [List.range_succ, h]
  · simp [List.range_succ, h, satStep]
def satN (B : Brn) : Nat := satL B (isL B.G 64)
def satV (B : Brn) : Value := if brnB B = true then .tuple #[.int .i64 (satN B), .float .f32 (B.s (satN B)), .int .i64 0] else .tuple #[.int .i64 0, .float .f32 0, .int .i64 1]
theorem satV_is (B : Brn) : ∃ (a : Int) (b : Nat) (n : Int), satV B = .tuple #[.int .i64 a, .float .f32 b, .int .i64 n] := by
  unfold satV
  split <;> exact ⟨_, _, _, rfl⟩

end Go.Proofs.YtikefaollfaejaaDoor
