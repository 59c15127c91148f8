/- LeakOf: the program's. Condition: the table of math/bits is laid. -/
import Derived.Test.YtinepldaodadiaaDoorLeakS
import Derived.Test.YtinepldaodadiaaDoorNums
namespace Go.Proofs.YtinepldaodadiaaDoor
open Go.RowKit Go.Shelf
attribute [local go_sem] Oper.semAt_some run_store_float
set_option linter.unusedSimpArgs false
set_option linter.unusedVariables false

theorem bitsL_nodup (x : Nat) : (bitsL x).Nodup := List.Pairwise.filter _ List.nodup_range
theorem bitsL_rest {x m c : Nat} (h0 : x ≠ 0) (hx : x < 18446744073709551616) (hc : c = Lib.ctz 64 x) (hm : ∀ i, i < 64 → m.testBit i = (x.testBit i && !(2 ^ c).testBit i)) : bitsL x = c :: bitsL m := by
  have e := bitsL_cons h0 hx
  have hn := bitsL_nodup x
  rw [e, ← hc] at hn
  rw [e, ← hc]
  congr 1
  obtain ⟨h1, _⟩ := List.nodup_cons.1 hn
  have e2 : bitsL m = (bitsL x).filter (fun i => decide (i ≠ c)) := by
    unfold bitsL
    rw [List.filter_filter]
    refine List.filter_congr fun i hi => ?_
    have hi' : i < 64 := by simpa using hi
    rw [hm i hi', Nat.testBit_two_pow]
    by_cases e3 : i = c
    · subst e3; simp
    · have : ¬ c = i := fun h => e3 h.symm
      simp [e3, this]
  rw [e2, e, ← hc, List.filter_cons, if_neg (by simp)]
  symm
  rw [List.filter_eq_self]
  intro i hi
  have : i ≠ c := fun h => h1 (h ▸ hi)
  simp [this]
theorem fx_sub {G : Gd} (hv : validB G = true) (hG : GdOk G) : ∀ i, i < 64 → G.x.toNat.testBit i = true → isB G i = true := fun i hi hb => by
  have hf : fixB G = true := by
    have := hv
    unfold validB at this
    simp only [Bool.and_eq_true] at this
    exact this.2.2.2.2.2.2
  have xx := hG.x'
  obtain ⟨x, hx⟩ : ∃ x : Nat, G.x = x := ⟨G.x.toNat, by omega⟩
  obtain ⟨n, h1, h2, h3⟩ := bits_andNot x (cellsN G) (by omega) (cellsN_lt G)
  unfold fixB at hf
  rw [hx, h1] at hf
  have hn : n = 0 := by simpa using hf
  have := h3 i hi
  rw [hx, Int.toNat_natCast] at hb
  rw [hn, hb, cellsN_testBit] at this
  simpa [hi] using this
theorem fx_bits {G : Gd} (hv : validB G = true) (hG : GdOk G) : fxTo G 64 = bitsL G.x.toNat := by
  unfold fxTo bitsL
  refine List.filter_congr fun i hi => ?_
  have hi' : i < 64 := by simpa using hi
  cases hb : G.x.toNat.testBit i
  · simp
  · rw [fx_sub hv hG i hi' hb]; rfl
theorem fx_ne {G : Gd} (hv : validB G = true) : G.x ≠ 0 := by
  have := hv
  unfold validB at this
  simp only [Bool.and_eq_true] at this
  have h := this.2.2.2.2.2.1
  simpa [bne] using h
/-- The sum, begun with a number. -/
def accO (f : Nat → Nat) (c : Nat) (l : List Nat) : Option Nat := l.foldl (fun o i => fop .f32 .add o (num .f32 (f i))) (num .f32 (f c))
theorem accO_snoc (f : Nat → Nat) (c : Nat) (l : List Nat) (i : Nat) : accO f c (l ++ [i]) = fop .f32 .add (accO f c l) (num .f32 (f i)) := by simp [accO]

end Go.Proofs.YtinepldaodadiaaDoor
