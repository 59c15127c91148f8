/- TransmitOf, the program's and the model's, as a value. Condition: the sentinels lie where they are laid. -/
import Derived.Test.YtbiknpfcemfoeaaDoorIsE
import Derived.Test.YtbiknpfcemfoeaaDoorSt
namespace Go.Proofs.YtbiknpfcemfoeaaDoor
open Go Go.RowKit Ieee
set_option linter.unusedSimpArgs false
set_option linter.unusedVariables false
attribute [local go_sem] run_store_f32
theorem below_drewN' {n : Nat} {w w' : World} (h : Below n w w') (k : Nat) : Below n w (w'.drewN k) := h.trans (⟨rfl, rfl, rfl, Nat.le_refl _, fun _ _ => rfl⟩)
/-- What a slope says. -/
def trQ (R l : Nat) : Option Nat := fop .f32 .quo (num .f32 R) (fop .f32 .mul (num .f32 1095307227) (num .f32 l))
def trBo : Option Nat → Bool | some c => trB c | none => false
theorem trB_num {r : Nat} {o : Option Nat} (h : num .f32 r = o) : trB r = trBo o := by
  subst h
  cases hn : nanK .f32 r
  · rw [num_some hn]; rfl
  · rw [num_none hn]
    simp only [trBo, trB, geB, order_nan _ hn]
    rfl
def geBo : Option Nat → Bool | some c => geB c 981467136 | none => false
def leBo : Option Nat → Bool | some c => leBB c 1233125376 | none => false
theorem trBo_is (o : Option Nat) : trBo o = (geBo o && leBo o) := by cases o <;> rfl
theorem geB_num {r : Nat} {o : Option Nat} (h : num .f32 r = o) : (FloatKind.f32.format.order r 981467136 == some Ordering.gt || FloatKind.f32.format.order r 981467136 == some Ordering.eq) = geBo o := by
  subst h
  cases hn : nanK .f32 r
  · rw [num_some hn]; rfl
  · rw [num_none hn, order_nan _ hn]; rfl
theorem leB_num {r : Nat} {o : Option Nat} (h : num .f32 r = o) : (FloatKind.f32.format.order r 1233125376 == some Ordering.lt || FloatKind.f32.format.order r 1233125376 == some Ordering.eq) = leBo o := by
  subst h
  cases hn : nanK .f32 r
  · rw [num_some hn]; rfl
  · rw [num_none hn, order_nan _ hn]; rfl
def trK (b : Bool) (o : Option Nat) : Option Nat := if b = true then (if trBo o = true then none else some 2) else some 0
def trO (b : Bool) (o : Option Nat) : Option Nat := if b = true then (if trBo o = true then o else num .f32 0) else num .f32 0
theorem trK_lt {b : Bool} {o : Option Nat} : ∀ i, trK b o = some i → i < 5 := by
  intro i h
  unfold trK at h
  split at h
  · split at h
    · cases h
    · cases h; decide
  · cases h; decide

end Go.Proofs.YtbiknpfcemfoeaaDoor
