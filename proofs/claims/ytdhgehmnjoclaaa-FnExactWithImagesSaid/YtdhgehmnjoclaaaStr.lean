/- What an argument that is an aquifer, a well, a whole number or a bool is. No condition. -/
import Derived.Test.YtdhgehmnjoclaaaAsk
namespace Go.Proofs.Ytdhgehmnjoclaaa
open Go Go.RowKit Ieee
set_option linter.unusedSimpArgs false
set_option linter.unusedVariables false

set_option maxRecDepth 100000 in
theorem cellStr_i8 {W : World} {r : Reach} {base : Nat} {v : Value} (h : Cell.okWide Try.prog W r base 32 v) : ∃ n, v = .int .i8 n ∧ -128 ≤ n ∧ n ≤ 127 := by
  simp only [Cell.okWide, Try.underlying32] at h
  cases v <;> simp_all [Cell.ok, IntKind.has]
  have := h.2
  revert this
  simp [IntKind.min, IntKind.max, IntKind.signed, IntKind.bits]
set_option maxRecDepth 100000 in
theorem cellStr_f32 {W : World} {r : Reach} {base : Nat} {v : Value} (h : Cell.okWide Try.prog W r base 33 v) : ∃ n, v = .float .f32 n ∧ n < 4294967296 := by
  simp only [Cell.okWide, Try.underlying33] at h
  cases v <;> simp_all [Cell.ok, FloatKind.has]
set_option maxRecDepth 100000 in
theorem okWide_we {W : World} {base : Nat} {v : Value} (h : Value.okWide Try.prog W .any base 39 v) : ∃ X Y R, v = .agg (We X Y R) ∧ (-128 ≤ X ∧ X ≤ 127) ∧ (-128 ≤ Y ∧ Y ≤ 127) ∧ R < 4294967296 := by
  simp only [Value.okWide, Try.underlying39] at h
  obtain ⟨cs, rfl, hsz, ts, hts, _, hc⟩ := h
  rw [show Try.prog.cellTypes Try.prog.depth 39 = some [32, 32, 33] by kernel_rfl] at hts
  obtain rfl := Option.some.inj hts
  rw [show Try.prog.cellsOf 39 = 3 by kernel_rfl] at hsz
  obtain ⟨l⟩ := cs
  match l, hsz with
  | [v0, v1, v2], _ =>
    obtain ⟨u0, hu0, o0⟩ := hc 0 v0 rfl
    obtain ⟨u1, hu1, o1⟩ := hc 1 v1 rfl
    obtain ⟨u2, hu2, o2⟩ := hc 2 v2 rfl
    obtain rfl := Option.some.inj hu0
    obtain rfl := Option.some.inj hu1
    obtain rfl := Option.some.inj hu2
    obtain ⟨X, rfl, h1, h2⟩ := cellStr_i8 o0
    obtain ⟨Y, rfl, h3, h4⟩ := cellStr_i8 o1
    obtain ⟨R, rfl, hR⟩ := cellStr_f32 o2
    exact ⟨X, Y, R, rfl, ⟨h1, h2⟩, ⟨h3, h4⟩, hR⟩
set_option maxRecDepth 100000 in
theorem okWideStr_i64 {W : World} {r : Reach} {base : Nat} {v : Value} (h : Value.okWide Try.prog W r base 2 v) : ∃ n, v = .int .i64 n ∧ -9223372036854775808 ≤ n ∧ n ≤ 9223372036854775807 := by
  have h2 : ∃ n, v = .int .i64 n ∧ IntKind.i64.has n := by
    simp only [Value.okWide, Try.underlying2, Cell.okWide] at h
    cases v <;> simp_all [Cell.ok]
  obtain ⟨n, rfl, h3⟩ := h2
  exact ⟨n, rfl, h3.1, h3.2⟩
end Go.Proofs.Ytdhgehmnjoclaaa
