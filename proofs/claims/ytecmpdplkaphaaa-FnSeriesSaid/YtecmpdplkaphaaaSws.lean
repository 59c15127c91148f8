/- SameWells, the program's and the model's, as a value of two lists. Condition: at most 2^20 wells each. -/
import Derived.Test.YtecmpdplkaphaaaWs
import Derived.BigQuiet
import Derived.Deep.QuietTactic
import Derived.Deep.RegionHeld3
namespace Go.Proofs.Ytecmpdplkaphaaa
open Go Go.RowKit Ieee
set_option linter.unusedSimpArgs false
set_option linter.unusedVariables false

def nanW (a : Nat) : Bool := FloatKind.f32.format.order a a != some .eq
/-- Two numbers are the same. -/
def sameN (a b : Nat) : Bool := if (nanW a || nanW b) = true then nanW a && nanW b else (a : Int) == b
theorem f32bitsW (b : Nat) (w : World) : (callFunc 27 #[.float .f32 b]).run Try.prog w = .ok (.value (.int .u32 b)) w := by kernel_rfl
theorem l01SameN_any (a b : Nat) (w : World) : Calls Try.prog 21 #[.float .f32 a, .float .f32 b] w fun e w' => e = .returned (.bool (sameN a b)) ∧ w = w' := by
  have hf := f32bitsW
  cases ha : nanW a <;> cases hb : nanW b <;> unfold nanW at ha hb
  all_goals
    go_enter Try.func21, Try.ntmps21
    go_wp2
    go_ret
    exact ⟨ret_bool (by simp [sameN, nanW, ha, hb]), rfl⟩
theorem l01SameN_is (a b : Nat) (r : Bool) (h : sameN a b = r) (w : World) : Calls Try.prog 21 #[.float .f32 a, .float .f32 b] w fun e w' => e = .returned (.bool r) ∧ w' = w := by
  subst h
  exact (l01SameN_any a b w).mono fun e w' h => ⟨h.1, h.2.symm⟩
def eqW (e f : W3) : Bool := !((e.1 != f.1) || ((e.2.1 != f.2.1) || !sameN e.2.2 f.2.2))
/-- The first k wells are the same. -/
def wsTo (L M : List W3) (k : Nat) : Prop := ∀ i e f, i < k → L[i]? = some e → M[i]? = some f → eqW e f = true
open Classical in
/-- Two lists of wells are the same. -/
noncomputable def sameWs (L M : List W3) : Bool := if L.length = M.length ∧ wsTo L M L.length then true else false
theorem sameWs_len {L M : List W3} (h : L.length ≠ M.length) : sameWs L M = false := by simp [sameWs, h]
theorem sameWs_yes {L M : List W3} {n : Nat} (h1 : L.length = n) (h2 : M.length = n) (h : wsTo L M n) : sameWs L M = true := by
  subst h1
  simp [sameWs, h2, h]
theorem sameWs_no {L M : List W3} {k : Nat} {e f : W3} (he : L[k]? = some e) (hf : M[k]? = some f) (h : eqW e f = false) : sameWs L M = false := by
  have hn : ¬ (L.length = M.length ∧ wsTo L M L.length) := fun ⟨_, hw⟩ => by
    have := hw k e f (List.getElem?_eq_some_iff.1 he).1 he hf
    rw [h] at this
    cases this
  simp only [sameWs, if_neg hn]
theorem wsTo_snoc {L M : List W3} {k : Nat} {e f : W3} (h : wsTo L M k) (he : L[k]? = some e) (hf : M[k]? = some f) (hq : eqW e f = true) : wsTo L M (k + 1) := fun i e' f' hi he' hf' => by
  by_cases hik : i = k
  · subst hik
    rw [he] at he'; rw [hf] at hf'
    cases he'; cases hf'
    exact hq
  · exact h i e' f' (by omega) he' hf'
theorem ret_ws {r : Bool} {L M : List W3} (h : sameWs L M = r) : Ending.returned (.bool r) = .returned (.bool (sameWs L M)) := by rw [h]

theorem specSameN_is (a b : Nat) (r : Bool) (h : sameN a b = r) (w : World) : Calls Try.prog 12 #[.float .f32 a, .float .f32 b] w fun e w' => e = .returned (.bool r) ∧ w' = w := by
  have H := Lib.hid h
  clear h
  go_enter Try.func12, Try.ntmps12
  go_wp2_with (go_at_call 21; refine (l01SameN_is a b r H.out _).mono ?_; rintro e w' ⟨rfl, hw⟩; rw [hw])
  go_ret
  exact ⟨rfl, rfl⟩

end Go.Proofs.Ytecmpdplkaphaaa
