/- What an argument that is an aquifer, a well, a whole number or a bool is. No condition. -/
import Derived.Test.YtecmpdplkaphaaaAsk
namespace Go.Proofs.Ytecmpdplkaphaaa
open Go Go.RowKit Ieee
set_option linter.unusedSimpArgs false
set_option linter.unusedVariables false

set_option maxRecDepth 100000 in
theorem cellStr_f32 {W : World} {r : Reach} {base : Nat} {v : Value} (h : Cell.okWide Try.prog W r base 25 v) : ∃ n, v = .float .f32 n ∧ n < 4294967296 := by
  simp only [Cell.okWide, Try.underlying25] at h
  cases v <;> simp_all [Cell.ok, FloatKind.has]
set_option maxRecDepth 100000 in
theorem okWideStr_i64 {W : World} {r : Reach} {base : Nat} {v : Value} (h : Value.okWide Try.prog W r base 2 v) : ∃ n, v = .int .i64 n ∧ -9223372036854775808 ≤ n ∧ n ≤ 9223372036854775807 := by
  have h2 : ∃ n, v = .int .i64 n ∧ IntKind.i64.has n := by
    simp only [Value.okWide, Try.underlying2, Cell.okWide] at h
    cases v <;> simp_all [Cell.ok]
  obtain ⟨n, rfl, h3⟩ := h2
  exact ⟨n, rfl, h3.1, h3.2⟩
end Go.Proofs.Ytecmpdplkaphaaa
