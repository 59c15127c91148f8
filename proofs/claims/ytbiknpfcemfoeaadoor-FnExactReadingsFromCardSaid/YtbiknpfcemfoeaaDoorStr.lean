/- What an argument that is an aquifer, a well, a whole number or a bool is. No condition. -/
import Derived.Test.YtbiknpfcemfoeaaDoorAsk
namespace Go.Proofs.YtbiknpfcemfoeaaDoor
open Go Go.RowKit Ieee
set_option linter.unusedSimpArgs false
set_option linter.unusedVariables false

set_option maxRecDepth 100000 in
theorem cellStr_i8 {W : World} {r : Reach} {base : Nat} {v : Value} (h : Cell.okWide Tryd.prog W r base 35 v) : ∃ n, v = .int .i8 n ∧ -128 ≤ n ∧ n ≤ 127 := by
  simp only [Cell.okWide, Tryd.underlying35] at h
  cases v <;> simp_all [Cell.ok, IntKind.has]
  have := h.2
  revert this
  simp [IntKind.min, IntKind.max, IntKind.signed, IntKind.bits]
set_option maxRecDepth 100000 in
theorem cellStr_f32 {W : World} {r : Reach} {base : Nat} {v : Value} (h : Cell.okWide Tryd.prog W r base 24 v) : ∃ n, v = .float .f32 n ∧ n < 4294967296 := by
  simp only [Cell.okWide, Tryd.underlying24] at h
  cases v <;> simp_all [Cell.ok, FloatKind.has]
set_option maxRecDepth 100000 in
theorem okWide_aq {W : World} {base : Nat} {v : Value} (h : Value.okWide Tryd.prog W .any base 34 v) : ∃ T S, v = .agg (Aq T S) ∧ T < 4294967296 ∧ S < 4294967296 := by
  simp only [Value.okWide, Tryd.underlying34] at h
  obtain ⟨cs, rfl, hsz, ts, hts, _, hc⟩ := h
  rw [show Tryd.prog.cellTypes Tryd.prog.depth 34 = some [24, 24] by kernel_rfl] at hts
  obtain rfl := Option.some.inj hts
  rw [show Tryd.prog.cellsOf 34 = 2 by kernel_rfl] at hsz
  obtain ⟨l⟩ := cs
  match l, hsz with
  | [v0, v1], _ =>
    obtain ⟨u0, hu0, o0⟩ := hc 0 v0 rfl
    obtain ⟨u1, hu1, o1⟩ := hc 1 v1 rfl
    obtain rfl := Option.some.inj hu0
    obtain rfl := Option.some.inj hu1
    obtain ⟨T, rfl, hT⟩ := cellStr_f32 o0
    obtain ⟨S, rfl, hS⟩ := cellStr_f32 o1
    exact ⟨T, S, rfl, hT, hS⟩
set_option maxRecDepth 100000 in
theorem okWide_we {W : World} {base : Nat} {v : Value} (h : Value.okWide Tryd.prog W .any base 37 v) : ∃ X Y R, v = .agg (We X Y R) ∧ (-128 ≤ X ∧ X ≤ 127) ∧ (-128 ≤ Y ∧ Y ≤ 127) ∧ R < 4294967296 := by
  simp only [Value.okWide, Tryd.underlying37] at h
  obtain ⟨cs, rfl, hsz, ts, hts, _, hc⟩ := h
  rw [show Tryd.prog.cellTypes Tryd.prog.depth 37 = some [35, 35, 24] by kernel_rfl] at hts
  obtain rfl := Option.some.inj hts
  rw [show Tryd.prog.cellsOf 37 = 3 by kernel_rfl] at hsz
  obtain ⟨l⟩ := cs
  match l, hsz with
  | [v0, v1, v2], _ =>
    obtain ⟨u0, hu0, o0⟩ := hc 0 v0 rfl
    obtain ⟨u1, hu1, o1⟩ := hc 1 v1 rfl
    obtain ⟨u2, hu2, o2⟩ := hc 2 v2 rfl
    obtain rfl := Option.some.inj hu0
    obtain rfl := Option.some.inj hu1
    obtain rfl := Option.some.inj hu2
    obtain ⟨X, rfl, h1, h2⟩ := cellStr_i8 o0
    obtain ⟨Y, rfl, h3, h4⟩ := cellStr_i8 o1
    obtain ⟨R, rfl, hR⟩ := cellStr_f32 o2
    exact ⟨X, Y, R, rfl, ⟨h1, h2⟩, ⟨h3, h4⟩, hR⟩
set_option maxRecDepth 100000 in
theorem okWideStr_i64 {W : World} {r : Reach} {base : Nat} {v : Value} (h : Value.okWide Tryd.prog W r base 2 v) : ∃ n, v = .int .i64 n ∧ -9223372036854775808 ≤ n ∧ n ≤ 9223372036854775807 := by
  have h2 : ∃ n, v = .int .i64 n ∧ IntKind.i64.has n := by
    simp only [Value.okWide, Tryd.underlying2, Cell.okWide] at h
    cases v <;> simp_all [Cell.ok]
  obtain ⟨n, rfl, h3⟩ := h2
  exact ⟨n, rfl, h3.1, h3.2⟩
end Go.Proofs.YtbiknpfcemfoeaaDoor
