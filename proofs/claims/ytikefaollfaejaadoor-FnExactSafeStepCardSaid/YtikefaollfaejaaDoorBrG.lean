/- GoesOut, ComesIn: the model's and the program's. Condition (the program's): the table of math/bits is laid. -/
import Derived.Test.YtikefaollfaejaaDoorBrP
namespace Go.Proofs.YtikefaollfaejaaDoor
open Go.RowKit Go.Shelf
attribute [local go_sem] Oper.semAt_some run_store_float
set_option linter.unusedSimpArgs false
set_option linter.unusedVariables false

theorem sol_field0 (p q : Nat) (w : World) : (Instr.field 51 (.agg #[.pointer (some ⟨p, 0, none⟩), .pointer (some ⟨q, 0, none⟩)]) 0).run Tryd.prog w = .ok (.pointer (some ⟨p, 0, none⟩)) w := by kernel_rfl
attribute [local go_sem] sol_field0
theorem brn_valid {B : Brn} (h : brnB B = true) : validB B.G = true := by
  unfold brnB at h
  simp only [Bool.and_eq_true] at h
  exact h.1
/-- What is asked of a brine and the number of a cell. -/
def brnAsk (B : Brn) (c : Int) : Int := if brnB B = true then (if inB B.G c = true then 0 else 2) else 1
theorem brnAsk_in {B : Brn} {c : Int} (h : brnAsk B c = 0) : ∃ k : Nat, c = k ∧ k < 64 ∧ validB B.G = true ∧ isB B.G k = true ∧ brnB B = true := by
  unfold brnAsk at h
  cases hv : brnB B
  · rw [hv] at h; simp at h
  · cases hi : inB B.G c
    · rw [hv, hi] at h; simp at h
    · obtain ⟨k, e, hk, hb⟩ := inB_cast hi
      exact ⟨k, e, hk, brn_valid hv, hb, rfl⟩

/-- What GoesOut answers. -/
def goesOutV (B : Brn) (c : Int) : Value := if brnAsk B c = 0 then finV (outO B.G c.toNat) else FI 0 (brnAsk B c)
theorem goesOutV_is (B : Brn) (c : Int) : ∃ (b : Nat) (n : Int), goesOutV B c = .tuple #[.float .f32 b, .int .i64 n] := by
  unfold goesOutV
  split
  · exact finV_is _
  · exact ⟨_, _, rfl⟩

/-- What ComesIn answers. -/
def comesInV (B : Brn) (c : Int) : Value := if brnAsk B c = 0 then finV (inO B c.toNat) else FI 0 (brnAsk B c)
theorem comesInV_is (B : Brn) (c : Int) : ∃ (b : Nat) (n : Int), comesInV B c = .tuple #[.float .f32 b, .int .i64 n] := by
  unfold comesInV
  split
  · exact finV_is _
  · exact ⟨_, _, rfl⟩

end Go.Proofs.YtikefaollfaejaaDoor
