/- ArgumentAt and DrawdownAt, the program's and the model's, as values. No condition. -/
import Derived.Test.YtdhgehmnjoclaaaDrwI
namespace Go.Proofs.Ytdhgehmnjoclaaa
open Go Go.RowKit Ieee
set_option linter.unusedSimpArgs false
set_option linter.unusedVariables false
attribute [local go_sem] run_store_f32

theorem ask_cases (T S : Nat) (X Y : Int) (R : Nat) (x y : Int) (ts : List Int) : askV T S X Y R x y ts = 0 ∨ askV T S X Y R x y ts = 1 ∨ askV T S X Y R x y ts = 2 := by
  unfold askV
  split
  · split
    · exact .inl rfl
    · exact .inr (.inr rfl)
  · exact .inr (.inl rfl)
theorem pl_bounds {n : Int} (h : plB n = true) : -100 ≤ n ∧ n ≤ 100 := by
  simp only [plB, Bool.and_eq_true, decide_eq_true_eq] at h
  exact h
theorem tm_bounds {n : Int} (h : tmB n = true) : 1 ≤ n ∧ n ≤ 100000 := by
  simp only [tmB, Bool.and_eq_true, decide_eq_true_eq] at h
  exact h
theorem we_bounds {X Y : Int} {R : Nat} (h : weB X Y R = true) : (-100 ≤ X ∧ X ≤ 100) ∧ (-100 ≤ Y ∧ Y ≤ 100) := by
  simp only [weB, Bool.and_eq_true] at h
  exact ⟨pl_bounds h.1.1, pl_bounds h.1.2⟩
theorem ask_ok {T S : Nat} {X Y : Int} {R : Nat} {x y : Int} {ts : List Int} (hT : T < 4294967296) (hS : S < 4294967296) (h : askV T S X Y R x y ts = 0) :
    (981467136 ≤ T ∧ T ≤ 1233125376) ∧ (897581056 ≤ S ∧ S ≤ 1065353216) ∧ (-100 ≤ X ∧ X ≤ 100) ∧ (-100 ≤ Y ∧ Y ≤ 100) ∧ (-100 ≤ x ∧ x ≤ 100) ∧ (-100 ≤ y ∧ y ≤ 100) ∧ ∀ t ∈ ts, 1 ≤ t ∧ t ≤ 100000 := by
  unfold askV at h
  split at h
  · rename_i h1
    split at h
    · rename_i h2
      simp only [Bool.and_eq_true, List.all_eq_true] at h1 h2
      obtain ⟨a, b, c, d⟩ := aq_bits hT hS h1.1
      obtain ⟨e, f⟩ := we_bounds h1.2
      exact ⟨⟨a, b⟩, ⟨c, d⟩, e, f, pl_bounds h2.1.1, pl_bounds h2.1.2, fun t ht => tm_bounds (h2.2 t ht)⟩
    · cases h
  · cases h
/-- A number and a code, if all is as asked. -/
def outV (o : Option Nat) (n : Int) : Option Nat × Int := if n = 0 then (o, 0) else (num .f32 0, n)
theorem outV_ex {o : Option Nat} (h : ∃ r, num .f32 r = o) (n : Int) : ∃ r, num .f32 r = (outV o n).1 := by
  unfold outV
  split
  · exact h
  · exact ⟨0, rfl⟩

end Go.Proofs.Ytdhgehmnjoclaaa
