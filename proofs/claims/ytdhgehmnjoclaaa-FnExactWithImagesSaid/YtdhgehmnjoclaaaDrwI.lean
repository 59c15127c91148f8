/- The argument of a well and its drawdown: the program's, and the model's drawdown. Condition: what comes in is valid. -/
import Derived.Test.YtdhgehmnjoclaaaDrw
import Derived.Test.YtdhgehmnjoclaaaLs
namespace Go.Proofs.Ytdhgehmnjoclaaa
open Go Go.RowKit Ieee
set_option linter.unusedSimpArgs false
set_option linter.unusedVariables false
attribute [local go_sem] run_store_f32

/-- What is in blocks that were just laid. -/
theorem laid1 (w : World) (a : Obj) : (w.alloc a).heap.size = w.heap.size + 1 ∧ (w.alloc a).heap[w.heap.size]? = some a := by
  exact ⟨by simp, heap_alloc_last w a⟩
theorem laid_old {w : World} {i : Nat} {a b : Obj} (h : w.heap[i]? = some b) : (w.alloc a).heap[i]? = some b := by
  have hi : i < w.heap.size := by
    rcases Nat.lt_or_ge i w.heap.size with h1 | h1
    · exact h1
    · rw [Array.getElem?_eq_none h1] at h; cases h
  have := (Below.refl (i + 1) w).alloc (by omega : i + 1 ≤ w.heap.size) a
  rw [this.block i (by omega)]
  exact h
theorem laid3 (w : World) (a b c : Obj) : ((w.alloc a).alloc b |>.alloc c).heap.size = w.heap.size + 1 + 1 + 1 ∧ ((w.alloc a).alloc b |>.alloc c).heap[w.heap.size]? = some a ∧ ((w.alloc a).alloc b |>.alloc c).heap[w.heap.size + 1]? = some b ∧ ((w.alloc a).alloc b |>.alloc c).heap[w.heap.size + 1 + 1]? = some c ∧ Below w.heap.size w ((w.alloc a).alloc b |>.alloc c) := by
  obtain ⟨z1, h1⟩ := laid1 w a
  obtain ⟨z2, h2⟩ := laid1 (w.alloc a) b
  obtain ⟨z3, h3⟩ := laid1 ((w.alloc a).alloc b) c
  rw [z1] at h2 z2
  rw [z2] at h3 z3
  exact ⟨z3, laid_old (laid_old h1), laid_old h2, h3, (((Below.refl _ _).alloc (Nat.le_refl _) _).alloc (by omega) _).alloc (by omega) _⟩
theorem laid4 (w : World) (a b c d : Obj) : ((w.alloc a).alloc b |>.alloc c |>.alloc d).heap.size = w.heap.size + 1 + 1 + 1 + 1 ∧ ((w.alloc a).alloc b |>.alloc c |>.alloc d).heap[w.heap.size]? = some a ∧ ((w.alloc a).alloc b |>.alloc c |>.alloc d).heap[w.heap.size + 1]? = some b ∧ ((w.alloc a).alloc b |>.alloc c |>.alloc d).heap[w.heap.size + 1 + 1]? = some c ∧ ((w.alloc a).alloc b |>.alloc c |>.alloc d).heap[w.heap.size + 1 + 1 + 1]? = some d ∧ Below w.heap.size w ((w.alloc a).alloc b |>.alloc c |>.alloc d) := by
  obtain ⟨z, h1, h2, h3, hb⟩ := laid3 w a b c
  obtain ⟨z4, h4⟩ := laid1 ((w.alloc a).alloc b |>.alloc c) d
  rw [z] at h4 z4
  exact ⟨z4, laid_old h1, laid_old h2, laid_old h3, h4, hb.alloc (by omega) _⟩
theorem laid2 (w : World) (a b : Obj) : ((w.alloc a).alloc b).heap.size = w.heap.size + 1 + 1 ∧ ((w.alloc a).alloc b).heap[w.heap.size]? = some a ∧ ((w.alloc a).alloc b).heap[w.heap.size + 1]? = some b ∧ Below w.heap.size w ((w.alloc a).alloc b) := by
  obtain ⟨z1, h1⟩ := laid1 w a
  obtain ⟨z2, h2⟩ := laid1 (w.alloc a) b
  rw [z1] at h2 z2
  exact ⟨z2, laid_old h1, h2, ((Below.refl _ _).alloc (Nat.le_refl _) _).alloc (by omega) _⟩

/-- The greater one of two numbers. -/
theorem max_pos {P : Program} (w : World) (ts : Array TypeId) (t : TypeId) (x y : Nat) (h1 : 8388608 ≤ x) (h2 : x < 2139095040) (h3 : 8388608 ≤ y) (h4 : y < 2139095040) : (Builtin.max_ ts t #[.float .f32 x, .float .f32 y]).run P w = .ok (.float .f32 (if x < y then y else x)) w := by
  have ho : FloatKind.f32.format.order x y = some (compare x y) := ord_pos h1 h2 h3 h4
  have hneg : (FloatKind.f32.decode x).neg = false := by
    show (single.read x).neg = false
    rw [norm_read h1 h2]
    rfl
  unfold Builtin.max_
  simp only [List.foldlM, Builtin.max2, ho]
  rcases Nat.lt_trichotomy x y with h | h | h
  · have : compare x y = .lt := by simp only [compare, compareOfLessAndEq]; rw [if_pos h]
    rw [this, if_pos h]; simp [hneg, go_sem]
  · have hn : ¬ x < y := by omega
    have : compare x y = .eq := by simp only [compare, compareOfLessAndEq]; rw [if_neg hn, if_pos h]
    rw [this, if_neg hn]; simp [hneg, go_sem]
  · have hn : ¬ x < y := by omega
    have he : ¬ x = y := by omega
    have : compare x y = .gt := by simp only [compare, compareOfLessAndEq]; rw [if_neg hn, if_neg he]
    rw [this, if_neg hn]; simp [hneg, go_sem]
theorem wpList_max {P : Program} {ops : Array Oper} {rest : List Oper} {o : Oper} {a : Act} {w : World} {Q : Exit → Act → World → Prop} (hg : o.guard = none) (p q : Operand) (ts : Array TypeId)
    (ho : o.op = .call { callee := .builtin .max, args := #[p, q], argTypes := ts }) (x y : Nat) (hx : a.eval p = .float .f32 x) (hy : a.eval q = .float .f32 y) (h1 : 8388608 ≤ x) (h2 : x < 2139095040) (h3 : 8388608 ≤ y) (h4 : y < 2139095040)
    (h : wpList P ops Q rest (a.put o.dst (.float .f32 (if x < y then y else x))) w) : wpList P ops Q (o :: rest) a w :=
  wpList_plain hg fun K hK => by
    have hm := fun (tt : Array TypeId) (t : TypeId) => max_pos (P := P) w tt t x y h1 h2 h3 h4
    unfold Oper.wp execOp
    simp only [ho]
    simp only [resolve, hx, hy, Sem.run_bind, Sem.run_pure, Result.andThen, invoke, List.map_toArray, List.map_cons, List.map_nil]
    simp [hm, go_sem]
    exact hK _ _ h

/-- A positive normal number is not 0. -/
theorem ne_zero {f : Nat} (h1 : 8388608 ≤ f) (h2 : f < 2139095040) : (FloatKind.f32.format.order f 0 == some Ordering.eq) = false := by
  have : FloatKind.f32.format.order f 0 = some Ordering.gt := by
    show Format.order single f 0 = _
    unfold Format.order
    rw [norm_read h1 h2, show single.read 0 = .number false 0 (-149) by decide +kernel]
    unfold Datum.order
    simp only []
    have m1 : (-149 + ((f / 8388608 - 1 : Nat) : Int) - min (-149 + ((f / 8388608 - 1 : Nat) : Int)) (-149)).toNat = f / 8388608 - 1 := by omega
    rw [m1]
    unfold signed
    simp only [Bool.false_eq_true, if_false, Nat.shiftLeft_eq, Nat.zero_mul]
    have hp := Nat.two_pow_pos (f / 8388608 - 1)
    have : 0 < (8388608 + f % 8388608) * 2 ^ (f / 8388608 - 1) := Nat.mul_pos (by omega) hp
    generalize (8388608 + f % 8388608) * 2 ^ (f / 8388608 - 1) = B at this ⊢
    simp only [compare, compareOfLessAndEq]
    rw [if_neg (by omega), if_neg (by omega)]
  rw [this]
  rfl

theorem none_ex : ∃ r, num .f32 r = none := ⟨2143289344, by decide +kernel⟩
theorem fop_any (op : BinOp) (hop : arith op = true) (x y : Option Nat) : ∃ r, num .f32 r = fop .f32 op x y := by
  cases x with
  | none => exact none_ex
  | some a =>
    cases y with
    | none => exact none_ex
    | some b =>
      rw [show fop .f32 op (some a) (some b) = floatBits op .f32 a b from rfl, ← fop_num]
      exact fop_ex .f32 op hop _ _ (num_ex _ _) (num_ex _ _)
theorem drwV_ex (T S R : Nat) (dx dy t : Int) : ∃ r, num .f32 r = drwV T S R dx dy t := by
  unfold drwV
  split
  · exact num_ex _ _
  · exact fop_any _ rfl _ _

end Go.Proofs.Ytdhgehmnjoclaaa
