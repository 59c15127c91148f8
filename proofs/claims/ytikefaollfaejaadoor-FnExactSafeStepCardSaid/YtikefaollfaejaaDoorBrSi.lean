/- SaltIn: both sides. Condition (the program's): the table of math/bits is laid. -/
import Derived.Test.YtikefaollfaejaaDoorBrFr
namespace Go.Proofs.YtikefaollfaejaaDoor
open Go.RowKit Go.Shelf
attribute [local go_sem] Oper.semAt_some run_store_float
set_option linter.unusedSimpArgs false
set_option linter.unusedVariables false

/-- How much salt there is in a cell. -/
def amtO (B : Brn) (i : Nat) : Option Nat := fop .f32 .mul (num .f32 (B.s i)) (num .f32 B.r)
def prodTo (B : Brn) : Nat → Option Nat
  | 0 => amtO B 0
  | k + 1 => if isB B.G (k + 1) = true then fop .f32 .add (prodTo B k) (amtO B (k + 1)) else prodTo B k
theorem amtO_ex (B : Brn) (i : Nat) : ∃ r, num .f32 r = amtO B i := fop_ex _ _ rfl _ _ (num_ex _ _) (num_ex _ _)
theorem is_zero {G : Gd} (h : validB G = true) : isB G 0 = true := by
  obtain ⟨v1, v2, v3, v4⟩ := valid_ext h
  unfold isB
  simp
  omega
theorem prodTo_sum (B : Brn) (f : Nat → Nat) (h0 : isB B.G 0 = true) (h : ∀ i, i < 64 → isB B.G i = true → num .f32 (f i) = amtO B i) : ∀ k, k < 64 → sumTo B.G f k = prodTo B k := by
  intro k
  induction k with
  | zero => intro _; exact h 0 (by omega) h0
  | succ k ih =>
    intro hk
    unfold sumTo prodTo
    rw [ih (by omega)]
    cases hi : isB B.G (k + 1)
    · rfl
    · rw [if_pos rfl, if_pos rfl, h _ hk hi]
def saltInV (B : Brn) : Value := if brnB B = true then finV (prodTo B 63) else FI 0 1
theorem saltInV_is (B : Brn) : ∃ (b : Nat) (n : Int), saltInV B = .tuple #[.float .f32 b, .int .i64 n] := by
  unfold saltInV
  split
  · exact finV_is _
  · exact ⟨_, _, rfl⟩

end Go.Proofs.YtikefaollfaejaaDoor
