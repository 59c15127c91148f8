/- SumOver: the model's and the program's. Condition (the program's): the table of math/bits is laid. -/
import Derived.Test.YtcfkkceidlpdkaaDoorRange
import Derived.Test.YtcfkkceidlpdkaaDoorFin
import Derived.Test.YtcfkkceidlpdkaaDoorSumS
import Derived.Test.YtcfkkceidlpdkaaDoorCellsOf
namespace Go.Proofs.YtcfkkceidlpdkaaDoor
open Go.RowKit Go.Shelf
attribute [local go_sem] Oper.semAt_some run_store_float
set_option linter.unusedSimpArgs false

theorem bits_andNot (a b : Nat) (ha : a < 18446744073709551616) (hb : b < 18446744073709551616) : ∃ n : Nat, bits .andNot .u64 (a : Int) (b : Int) = (n : Int) ∧ n < 18446744073709551616 ∧ ∀ i, i < 64 → n.testBit i = (a.testBit i && !b.testBit i) := by
  have h1 : (BitVec.ofInt 64 (a : Int)).toNat = a := by
    rw [BitVec.ofInt_natCast, BitVec.toNat_ofNat]; exact Nat.mod_eq_of_lt (by omega)
  have h2 : (BitVec.ofInt 64 (b : Int)).toNat = b := by
    rw [BitVec.ofInt_natCast, BitVec.toNat_ofNat]; exact Nat.mod_eq_of_lt (by omega)
  refine ⟨(BitVec.ofInt 64 (a : Int) &&& ~~~ BitVec.ofInt 64 (b : Int)).toNat, ?_, ?_, fun i hi => ?_⟩
  · show IntKind.u64.wrap ((BitVec.ofInt 64 (a : Int) &&& ~~~ BitVec.ofInt 64 (b : Int)).toNat : Int) = _
    have := (BitVec.ofInt 64 (a : Int) &&& ~~~ BitVec.ofInt 64 (b : Int)).isLt
    rw [IntKind.wrap_u64]
    omega
  · have := (BitVec.ofInt 64 (a : Int) &&& ~~~ BitVec.ofInt 64 (b : Int)).isLt
    omega
  · rw [BitVec.testBit_toNat, BitVec.getLsbD_and, BitVec.getLsbD_not, ← BitVec.testBit_toNat, ← BitVec.testBit_toNat, h1, h2]
    simp [hi]

/-- A ground and a field are boxed. -/
theorem gf_box (G : Gd) (f : Nat → Nat) (t u : TypeId) (w : World) : ∃ W, (w.alloc (.cells (Grd G) t)).alloc (.cells (Fld f) u) = W ∧ W.heap.size = w.heap.size + 1 + 1 ∧ GBox W w.heap.size G ∧ W.rangeAt (w.heap.size + 1) 0 (Fld f).toList ∧ Below w.heap.size w W := by
  obtain ⟨W1, h1, z1, g1, b1⟩ := gbox1 G t w
  have b2 : Below W1.heap.size W1 (W1.alloc (.cells (Fld f) u)) := (Below.refl _ _).alloc (Nat.le_refl _) _
  rw [h1]
  exact ⟨_, rfl, by simp [z1], g1.below b2 (by omega), by rw [← z1]; exact rangeAt_row (heap_alloc_last W1 _), b1.trans (b2.mono (by omega))⟩


/-- A store of one number. -/
theorem store_f32 {P : Program} {op : Oper} {a : Act} {ty : TypeId} {x y : Operand} {b o v : Nat} {w : World} (ho : op.op = .store ty x y) (hx : a.eval x = .pointer (some ⟨b, o, none⟩)) (hy : a.eval y = .float .f32 v) (hi : (P.info? ty).map (·.size) = some 1) {u : Value} (hu : w.cell? ⟨b, o, none⟩ = some u) (hf : w.frozen? ⟨b, o, none⟩ = false) :
    (execOp a.eval op).run P w = .ok .skip (w.setCell ⟨b, o, none⟩ (.float .f32 v)) := by
  have hs : (sizeOf ty).run P w = .ok 1 w := by
    cases hq : P.info? ty with
    | none => simp [hq] at hi
    | some i => simp [hq] at hi; simp [sizeOf, typeInfo, hq, hi]
  unfold execOp
  simp only [ho, hx, hy]
  go_simp
theorem infoF32 : (Tryd.prog.info? 23).map (·.size) = some 1 := by kernel_rfl

/-- The sum over a list. -/
def sumL (f : Nat → Nat) (l : List Nat) : Option Nat := l.foldl (fun o i => fop .f32 .add o (num .f32 (f i))) (num .f32 (f 0))
theorem sumL_snoc (f : Nat → Nat) (l : List Nat) (i : Nat) : sumL f (l ++ [i]) = fop .f32 .add (sumL f l) (num .f32 (f i)) := by simp [sumL]
theorem sumL_bits (G : Gd) (f : Nat → Nat) (m : Nat) (h : ∀ i, i < 64 → m.testBit i = (isB G i && decide (i ≠ 0))) : sumL f (bitsL m) = sumTo G f 63 := by
  have key : ∀ k, k ≤ 63 → sumL f ((List.range (k + 1)).filter fun i => m.testBit i) = sumTo G f k := by
    intro k
    induction k with
    | zero =>
      intro _
      have h0 := h 0 (by omega)
      simp at h0
      simp [List.range_succ, h0, sumTo, sumL]
    | succ k ih =>
      intro hk
      rw [List.range_succ, List.filter_append]
      have h1 := h (k + 1) (by omega)
      have h2 : m.testBit (k + 1) = isB G (k + 1) := by rw [h1]; simp
      cases hi : isB G (k + 1)
      · rw [hi] at h2
        rw [List.filter_cons, h2, if_neg (by simp), List.filter_nil, List.append_nil, ih (by omega)]
        simp [sumTo, hi]
      · rw [hi] at h2
        rw [List.filter_cons, h2, if_pos rfl, List.filter_nil, sumL_snoc, ih (by omega)]
        simp [sumTo, hi]
  exact key 63 (by omega)

/-- A number that must be finite, and its code. -/
def finV : Option Nat → Value
  | some b => if finB b = true then FI b 0 else FI 0 4
  | none => FI 0 4
theorem finV_num {r : Nat} {o : Option Nat} (h : num .f32 r = o) : (if finB r = true then FI r 0 else FI 0 4) = finV o := by
  subst h
  cases hn : nanK .f32 r
  · rw [num_some hn]; rfl
  · rw [num_none hn]
    have : finB r = false := by
      rw [← finO_num, num_none hn]; rfl
    rw [this]
    rfl
def sumV (G : Gd) (f : Nat → Nat) : Value := if validB G = true then finV (sumTo G f 63) else FI 0 1

end Go.Proofs.YtcfkkceidlpdkaaDoor
