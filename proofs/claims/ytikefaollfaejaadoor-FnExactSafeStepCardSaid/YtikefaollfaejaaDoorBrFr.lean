/- FrontOf: both sides. Condition (the program's): the table of math/bits is laid. -/
import Derived.Test.YtikefaollfaejaaDoorBrG
namespace Go.Proofs.YtikefaollfaejaaDoor
open Go.RowKit Go.Shelf
attribute [local go_sem] Oper.semAt_some run_store_float
set_option linter.unusedSimpArgs false
set_option linter.unusedVariables false

theorem one_boxT (A : Array Value) (t : TypeId) (w : World) : ∃ W, w.alloc (.cells A t) = W ∧ W.heap.size = w.heap.size + 1 ∧ W.rangeAt w.heap.size 0 A.toList ∧ W.there w.heap.size 0 A.size ∧ Below w.heap.size w W :=
  ⟨_, rfl, by simp, rangeAt_row (heap_alloc_last w _), there_row (heap_alloc_last w _) rfl, (Below.refl _ _).alloc (Nat.le_refl _) _⟩
theorem fb_two (B : Brn) (A : Array Value) (t u : TypeId) (w : World) : ∃ W, (w.alloc (.cells (BrnA B) t)).alloc (.cells A u) = W ∧ W.heap.size = w.heap.size + 1 + 1 ∧ BrnBox W w.heap.size B ∧ W.rangeAt (w.heap.size + 1) 0 A.toList ∧ W.there (w.heap.size + 1) 0 A.size ∧ Below w.heap.size w W := by
  obtain ⟨V, hV, z1, g1, b1⟩ := bbox1 B t w
  obtain ⟨W, hW, z2, r, th, b2⟩ := one_boxT A u V
  rw [hV, hW]
  rw [z1] at r th
  exact ⟨W, rfl, by omega, g1.below b2 (by omega), r, th, b1.trans (b2.mono (by omega))⟩
/-- Is a number at least another one? -/
def geB (y x : Nat) : Bool := FloatKind.f32.format.order y x == some Ordering.gt || FloatKind.f32.format.order y x == some Ordering.eq
def maskOf (l : List Nat) : Nat := l.foldl (fun a i => a ||| 2 ^ i) 0
theorem maskOf_snoc (l : List Nat) (i : Nat) : maskOf (l ++ [i]) = maskOf l ||| 2 ^ i := by simp [maskOf]
theorem maskOf_lt (l : List Nat) (h : ∀ i ∈ l, i < 64) : maskOf l < 18446744073709551616 := by
  suffices hs : ∀ (l : List Nat), (∀ i ∈ l, i < 64) → ∀ a, a < 2 ^ 64 → l.foldl (fun a i => a ||| 2 ^ i) a < 2 ^ 64 from hs l h 0 (by omega)
  intro l
  induction l with
  | nil => intro _ a ha; exact ha
  | cons i l ih =>
    intro h a ha
    exact ih (fun j hj => h j (by simp [hj])) _ (Nat.or_lt_two_pow ha (Nat.pow_lt_pow_right (by omega) (h i (by simp))))
/-- The cells of a list whose salt is at least a number. -/
def frL (B : Brn) (x : Nat) (l : List Nat) : List Nat := l.filter fun i => geB (B.s i) x
theorem frL_yes {B : Brn} {x : Nat} {l : List Nat} {i : Nat} (h : geB (B.s i) x = true) : frL B x (l ++ [i]) = frL B x l ++ [i] := by simp [frL, h]
theorem frL_no {B : Brn} {x : Nat} {l : List Nat} {i : Nat} (h : geB (B.s i) x = false) : frL B x (l ++ [i]) = frL B x l := by simp [frL, h]
theorem frL_lt {B : Brn} {x : Nat} {l : List Nat} (h : ∀ i ∈ l, i < 64) : ∀ i ∈ frL B x l, i < 64 := fun i hi => h i (List.mem_filter.1 hi).1
/-- The cells among the first numbers. -/
def isL (G : Gd) (k : Nat) : List Nat := (List.range k).filter (isB G)
theorem isL_yes {G : Gd} {k : Nat} (h : isB G k = true) : isL G (k + 1) = isL G k ++ [k] := by
  unfold isL
  rw [List.range_succ, List.filter_append, List.filter_cons, if_pos h, List.filter_nil]
theorem isL_no {G : Gd} {k : Nat} (h : isB G k = false) : isL G (k + 1) = isL G k := by
  unfold isL
  rw [List.range_succ, List.filter_append, List.filter_cons, if_neg (by rw [h]; decide), List.filter_nil, List.append_nil]
theorem isL_lt {G : Gd} {k : Nat} (hk : k ≤ 64) : ∀ i ∈ isL G k, i < 64 := fun i hi => by
  have := (List.mem_filter.1 hi).1
  simp at this
  omega
theorem isL_full (G : Gd) : isL G 64 = bitsL (cellsN G) := (cellL_bits G).symm
def frontN (B : Brn) (x : Nat) : Nat := maskOf (frL B x (isL B.G 64))
def frontV (B : Brn) (x : Nat) : Value := if brnB B = true then .tuple #[.int .u64 (frontN B x), .int .i64 0] else .tuple #[.int .u64 0, .int .i64 1]
theorem frontV_is (B : Brn) (x : Nat) : ∃ (a : Int) (n : Int), frontV B x = .tuple #[.int .u64 a, .int .i64 n] := by
  unfold frontV
  split <;> exact ⟨_, _, rfl⟩

end Go.Proofs.YtikefaollfaejaaDoor
