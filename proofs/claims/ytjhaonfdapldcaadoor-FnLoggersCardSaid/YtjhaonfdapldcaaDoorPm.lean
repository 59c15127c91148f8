/- Lists of permits in memory: the law's copy of one (toPermitS), its comparison with another that is the same (eqPermitS), and an argument that is one, opened. Condition: at most 2^20 of them. -/
import Derived.Test.YtjhaonfdapldcaaDoorLs
import Derived.Test.YtjhaonfdapldcaaDoorIntO
namespace Go.Proofs.YtjhaonfdapldcaaDoor
open Go Go.ChangeShapes Go.WideShapes Go.ChangeAt Go.RowKit Go.Deep Ieee
set_option linter.unusedSimpArgs false
set_option linter.unusedVariables false
attribute [local go_sem] run_store_float
/-- A permit. -/
def Pm (o c r : Int) : Array Value := #[.int .i8 o, .int .i8 c, .int .i16 r]
/-- A permit, as numbers. -/
abbrev P3 := Int × Int × Int
def p3 (e : P3) : List Value := (Pm e.1 e.2.1 e.2.2).toList
theorem p3_len (e : P3) : (p3 e).length = 3 := rfl
/-- The permits of L lie behind one another where the slice begins. -/
def PsAt (w : World) (p : Option Addr) (L : List P3) : Prop := ∀ i e, L[i]? = some e → ∃ b o, p = some ⟨b, o, none⟩ ∧ w.rangeAt b (o + i * 3) (p3 e)
theorem PsAt.below {w w' : World} {p : Option Addr} {L : List P3} (h : PsAt w p L) {B : Nat} (hb : ∀ b o, p = some ⟨b, o, none⟩ → b < B) (hB : Below B w w') : PsAt w' p L := fun i e he => by
  obtain ⟨b, o, hp, hr⟩ := h i e he
  exact ⟨b, o, hp, range_kept hr (hb b o hp) _ hB⟩
/-- What is there lies in a block that is there. -/
theorem PsAt.lt {w : World} {p : Option Addr} {L : List P3} (h : PsAt w p L) : L ≠ [] → ∀ b o, p = some ⟨b, o, none⟩ → b < w.heap.size := fun hne b o hp => by
  cases L with
  | nil => exact absurd rfl hne
  | cons e L =>
    obtain ⟨b', o', hp', hr⟩ := h 0 e rfl
    rw [hp] at hp'
    cases hp'
    exact World.block_lt_of_cell? w _ (hr 0 _ rfl)
theorem PsAt.keep {w w' : World} {p : Option Addr} {L : List P3} (h : PsAt w p L) (hB : Below w.heap.size w w') : PsAt w' p L := by
  by_cases hne : L = []
  · subst hne; intro i e he; simp at he
  · exact h.below (h.lt hne) hB
theorem pm_one (e : P3) : (#[Value.int .i8 e.1, .int .i8 e.2.1, .int .i16 e.2.2] : Array Value).all (·.oneCell') = true := by
  simp [Value.oneCell']
/-- One round of the copy: one permit more lies there. -/
theorem copiedP {w wr V1 V2 : World} {n k : Nat} {L : List P3} {e : P3} (hlt : k < n) (hS : w.heap.size < wr.heap.size) (hA : ∀ (j : Nat) (e : P3), j < k → L[j]? = some e → wr.rangeAt w.heap.size (0 + j * 3) (p3 e)) (hB : Below w.heap.size w wr)
    (he : L[k]? = some e) (q : Below wr.heap.size wr V1) (ht : V1.there w.heap.size 0 (n * 3)) (hv : V1.setCells w.heap.size (k * 3) [.int .i8 e.1, .int .i8 e.2.1, .int .i16 e.2.2] = V2) :
    V2.there w.heap.size 0 (n * 3) ∧ w.heap.size < V2.heap.size ∧ (∀ (j : Nat) (e : P3), j < k + 1 → L[j]? = some e → V2.rangeAt w.heap.size (0 + j * 3) (p3 e)) ∧ Below w.heap.size w V2 := by
  subst hv
  refine ⟨World.there_setCells ht _ _ _, by rw [size_setCellsW]; exact Nat.lt_of_lt_of_le hS q.size, fun j f hj hf => ?_, below_setCells _ (Nat.le_refl _) _ _ _ (hB.trans (q.mono hB.size))⟩
  by_cases hjk : j = k
  · subst hjk
    rw [he] at hf
    cases hf
    rw [Nat.zero_add]
    exact World.rangeAt_setCells_same _ _ _ _ (there_part ht (show j * 3 + 3 ≤ n * 3 by omega))
  · exact World.rangeAt_setCells_apart (range_kept (hA j f (by omega) hf) hS _ q) _ _ _ (.inr (.inl (by rw [p3_len]; omega)))

section
variable {H : Type} {enc : TypeId × Value → H} {w : World} {base : Nat} {spare : Nat → Bool} {held : Bool}
/-- A permit in memory, opened. -/
def okP (e : P3) : Prop := (Lit.int .i8 e.1).wf = true ∧ (Lit.int .i8 e.2.1).wf = true ∧ (Lit.int .i16 e.2.2).wf = true
end
end Go.Proofs.YtjhaonfdapldcaaDoor
