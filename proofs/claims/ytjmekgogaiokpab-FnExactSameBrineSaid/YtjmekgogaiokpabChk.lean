/- The model's l01Ok: whether a ground is valid. No condition. · The program's cells: the mask of a ground's cells. Condition: width and height fit. · The program's outside: a field without the numbers of a mask. Condition: the table of math/bits is laid. · The program's ValidGround: it returns whether the ground is valid. Condition: the table of math/bits is laid. · Whether a ground is valid: the program's ValidGround says what the model's l01Ok says. Condition: the table of math/bits is laid. · The model's checks of grounds, cells and sides. No condition. · The model's l01Made and the program's ifValid: a ground with a code. Condition (ifValid): the table of math/bits is laid. · The program's checks of grounds, cells and sides. Condition: the table of math/bits is laid. -/
import Derived.Test.YtjmekgogaiokpabPl
import Derived.WalkLawsBesides
import Derived.Laws.Bits64b
namespace Go.Proofs.Ytjmekgogaiokpab

section
open Go.RowKit
set_option linter.unusedSimpArgs false

/-- There is a cell with a number. -/
def isB (G : Gd) (i : Nat) : Bool := decide (((i % 8 : Nat) : Int) < G.wide) && decide (((i / 8 : Nat) : Int) < G.high)

theorem GdOk.wide' {G : Gd} (h : GdOk G) : -128 ≤ G.wide ∧ G.wide ≤ 127 := ⟨h.wide.1, h.wide.2⟩
theorem GdOk.high' {G : Gd} (h : GdOk G) : -128 ≤ G.high ∧ G.high ≤ 127 := ⟨h.high.1, h.high.2⟩
theorem GdOk.x' {G : Gd} (h : GdOk G) : 0 ≤ G.x ∧ G.x ≤ 18446744073709551615 := ⟨h.x.1, h.x.2⟩

/-- All numbers of a field are as they must be. -/
def okAt (G : Gd) (f : Nat → Nat) (i : Nat) : Bool := if isB G i = true then plainB (f i) else zeroB (f i)
def fieldB (G : Gd) (f : Nat → Nat) : Bool := (List.range 64).all fun i => okAt G f i
theorem all_yes {p : Nat → Bool} (h : ∀ i, i < 64 → p i = true) : (List.range 64).all p = true := by
  simp only [List.all_eq_true, List.mem_range]
  exact h
theorem all_no {p : Nat → Bool} (k : Nat) (hk : k < 64) (h : p k = false) : (List.range 64).all p = false := by
  cases hs : (List.range 64).all p with
  | false => rfl
  | true =>
    simp only [List.all_eq_true, List.mem_range] at hs
    rw [hs k hk] at h
    cases h
/-- The first k are so. -/
def upto (p : Nat → Bool) (k : Nat) : Prop := ∀ i, i < k → p i = true
theorem upto_zero (p : Nat → Bool) : upto p 0 := fun i hi => by omega
theorem upto_snoc {p : Nat → Bool} {k : Nat} (h : upto p k) (hs : p k = true) : upto p (k + 1) := fun i hi => by
  by_cases e : i = k
  · subst e; exact hs
  · exact h i (by omega)

/-- The bits of the first k numbers that are cells. -/
def cellsTo (G : Gd) : Nat → Nat
  | 0 => 0
  | k + 1 => if isB G k = true then cellsTo G k ||| 2 ^ k else cellsTo G k
theorem cellsTo_lt (G : Gd) : ∀ k, k ≤ 64 → cellsTo G k < 2 ^ 64
  | 0, _ => by simp [cellsTo]
  | k + 1, h => by
    have := cellsTo_lt G k (by omega)
    unfold cellsTo
    split
    · exact Nat.or_lt_two_pow this (Nat.pow_lt_pow_right (by decide) (by omega))
    · exact this
theorem cellsTo_testBit (G : Gd) (i : Nat) : ∀ k, (cellsTo G k).testBit i = (decide (i < k) && isB G i)
  | 0 => by simp [cellsTo]
  | k + 1 => by
    have := cellsTo_testBit G i k
    unfold cellsTo
    split
    · rename_i h
      rw [Nat.testBit_or, this, Nat.testBit_two_pow]
      by_cases e : k = i
      · subst e; simp [h]
      · have : (i < k + 1) ↔ (i < k) := by omega
        simp [e, this]
    · rename_i h
      rw [this]
      by_cases e : k = i
      · subst e; simp at h; simp [h]
      · have : (i < k + 1) ↔ (i < k) := by omega
        simp [this]
def cellsN (G : Gd) : Nat := cellsTo G 64
theorem cellsN_lt (G : Gd) : cellsN G < 18446744073709551616 := cellsTo_lt G 64 (by decide)
theorem cellsN_testBit (G : Gd) (i : Nat) : (cellsN G).testBit i = (decide (i < 64) && isB G i) := cellsTo_testBit G i 64

theorem wrap_pow (k : Nat) (hk : k < 64) : IntKind.u64.wrap (2 ^ k) = ((2 ^ k : Nat) : Int) := by
  have h1 : 2 ^ k < 18446744073709551616 := by
    have : 2 ^ k < 2 ^ 64 := Nat.pow_lt_pow_right (by decide) hk
    simpa using this
  have h2 : ((2 : Int) ^ k) = ((2 ^ k : Nat) : Int) := by simp
  rw [h2, IntKind.wrap_u64]
  generalize 2 ^ k = n at h1
  omega
theorem or_bit (x k : Nat) (hx : x < 18446744073709551616) (hk : k < 64) : bits .or .u64 (x : Int) (IntKind.u64.wrap (2 ^ k)) = ((x ||| 2 ^ k : Nat) : Int) := by
  rw [wrap_pow k hk]
  refine bits_or_u64_nat x _ hx ?_
  have : 2 ^ k < 2 ^ 64 := Nat.pow_lt_pow_right (by decide) hk
  simpa using this

/-- A ground's width and height fit. -/
def extB (G : Gd) : Bool := decide (2 ≤ G.wide) && decide (G.wide ≤ 8) && (decide (2 ≤ G.high) && decide (G.high ≤ 8))
def noNeg (G : Gd) : Bool := (List.range 64).all fun i => !negB (G.c i)

def fixB (G : Gd) : Bool := bits .andNot .u64 G.x (cellsN G) == 0
/-- A ground is valid. -/
def validB (G : Gd) : Bool := extB G && (fieldB G G.c && (fieldB G G.g && (fieldB G G.h && (noNeg G && ((G.x != 0) && fixB G)))))

theorem noNeg_no {G : Gd} {k : Nat} (hk : k < 64) (h : negB (G.c k) = true) : noNeg G = false := all_no k hk (by simp [h])
theorem noNeg_yes {G : Gd} (h : upto (fun i => !negB (G.c i)) 64) : noNeg G = true := all_yes h

/-- What the model's l01Ok says behind its fields. -/
def restB (G : Gd) : Bool := noNeg G && ((G.x != 0) && fixB G)

end

section
open Go.RowKit
set_option linter.unusedSimpArgs false

/-- The masks of the first k rows. -/
def rowsTo (W : Nat) : Nat → Nat
  | 0 => 0
  | k + 1 => rowsTo W k ||| ((2 ^ W - 1) * 2 ^ (8 * k))
theorem row_lt (W k : Nat) (hW : W ≤ 8) (hk : k < 8) : (2 ^ W - 1) * 2 ^ (8 * k) < 2 ^ 64 := by
  have h1 : 2 ^ W - 1 < 2 ^ 8 := by
    have : 2 ^ W ≤ 2 ^ 8 := Nat.pow_le_pow_right (by decide) hW
    have := Nat.two_pow_pos W
    omega
  calc (2 ^ W - 1) * 2 ^ (8 * k) < 2 ^ 8 * 2 ^ (8 * k) := Nat.mul_lt_mul_of_pos_right h1 (Nat.two_pow_pos _)
    _ = 2 ^ (8 + 8 * k) := by rw [Nat.pow_add]
    _ ≤ 2 ^ 64 := Nat.pow_le_pow_right (by decide) (by omega)
theorem rowsTo_lt (W : Nat) (hW : W ≤ 8) : ∀ k, k ≤ 8 → rowsTo W k < 2 ^ 64
  | 0, _ => by simp [rowsTo]
  | k + 1, h => Nat.or_lt_two_pow (rowsTo_lt W hW k (by omega)) (row_lt W k hW (by omega))
theorem rowsTo_testBit (W : Nat) (hW : W ≤ 8) (i : Nat) : ∀ k, (rowsTo W k).testBit i = (decide (i < 8 * k) && decide (i % 8 < W))
  | 0 => by simp [rowsTo]
  | k + 1 => by
    rw [rowsTo, Nat.testBit_or, rowsTo_testBit W hW i k, Nat.testBit_mul_two_pow, Nat.testBit_two_pow_sub_one]
    by_cases h1 : i < 8 * k
    · have h2 : ¬ 8 * k ≤ i := by omega
      have h3 : i < 8 * (k + 1) := by omega
      simp [h1, h2, h3]
    · by_cases h3 : i < 8 * (k + 1)
      · have h2 : 8 * k ≤ i := by omega
        have h4 : i - 8 * k = i % 8 := by omega
        simp [h1, h2, h3, h4]
      · have h2 : 8 * k ≤ i := by omega
        have h4 : ¬ i - 8 * k < W := by omega
        simp [h1, h3, h4]
theorem rows_cells (G : Gd) (W H : Nat) (hW : G.wide = W) (hH : G.high = H) (w8 : W ≤ 8) (h8 : H ≤ 8) : rowsTo W H = cellsN G := by
  apply Nat.eq_of_testBit_eq
  intro i
  rw [rowsTo_testBit W w8, cellsN_testBit, isB, hW, hH]
  have e1 : (((i % 8 : Nat) : Int) < (W : Int)) ↔ i % 8 < W := by omega
  have e2 : (((i / 8 : Nat) : Int) < (H : Int)) ↔ i / 8 < H := by omega
  by_cases h1 : i < 8 * H
  · have h2 : i < 64 := by omega
    have h3 : i / 8 < H := by omega
    simp only [e1, e2, h1, h2, h3, decide_true, Bool.true_and, Bool.and_true]
  · by_cases h2 : i < 64
    · have h3 : ¬ i / 8 < H := by omega
      simp only [e1, e2, h1, h2, h3, decide_false, Bool.false_and, Bool.and_false, decide_true]
    · simp only [h1, h2, decide_false, Bool.false_and]

theorem row_val (W k x : Nat) (hW : W ≤ 8) (hk : k < 8) (hx : x < 18446744073709551616) :
    bits BinOp.or IntKind.u64 (x : Int) (IntKind.u64.wrap (IntKind.u64.wrap (IntKind.u64.wrap (2 ^ W) - 1) * 2 ^ (8 * k))) = ((x ||| ((2 ^ W - 1) * 2 ^ (8 * k)) : Nat) : Int) := by
  rw [wrap_pow W (by omega)]
  have hp := Nat.two_pow_pos W
  have h1 : 2 ^ W ≤ 2 ^ 8 := Nat.pow_le_pow_right (by decide) hW
  have e1 : IntKind.u64.wrap (((2 ^ W : Nat) : Int) - 1) = ((2 ^ W - 1 : Nat) : Int) := by
    rw [IntKind.wrap_u64]
    generalize 2 ^ W = n at hp h1
    omega
  rw [e1]
  have h2 := row_lt W k hW hk
  have e2 : ((2 ^ W - 1 : Nat) : Int) * 2 ^ (8 * k) = (((2 ^ W - 1) * 2 ^ (8 * k) : Nat) : Int) := by
    rw [Int.natCast_mul, Int.natCast_pow]; rfl
  rw [e2]
  have e3 : IntKind.u64.wrap ((((2 ^ W - 1) * 2 ^ (8 * k) : Nat)) : Int) = (((2 ^ W - 1) * 2 ^ (8 * k) : Nat) : Int) := by
    rw [IntKind.wrap_u64]
    generalize (2 ^ W - 1) * 2 ^ (8 * k) = n at h2
    have : n < 18446744073709551616 := by simpa using h2
    omega
  rw [e3]
  exact bits_or_u64_nat x _ hx (by simpa using h2)

end

section
open Go.RowKit Go.Shelf
attribute [local go_sem] Oper.semAt_some run_store_float
set_option linter.unusedSimpArgs false

/-- A block that holds an array and may be written. -/
structure RowAt (W : World) (b : Nat) (f : Nat → Nat) : Prop where
  range : W.rangeAt b 0 (Fld f).toList
  there : W.there b 0 64
theorem RowAt.cell {W : World} {b : Nat} {f : Nat → Nat} (h : RowAt W b f) (i : Nat) (hi : i < 64) : W.cell? ⟨b, i, none⟩ = some (.float .f32 (f i)) := by
  have := Grd_fld h.range i hi
  rwa [Nat.zero_add] at this
theorem RowAt.free {W : World} {b : Nat} {f : Nat → Nat} (h : RowAt W b f) (i : Nat) (hi : i < 64) : W.frozen? ⟨b, i, none⟩ = false := by
  have := (h.there i hi).2
  rwa [Nat.zero_add] at this
theorem rowAt_mk {W : World} {b : Nat} {f : Nat → Nat} (h1 : ∀ i, i < 64 → W.cell? ⟨b, i, none⟩ = some (.float .f32 (f i))) (h2 : ∀ i, i < 64 → W.frozen? ⟨b, i, none⟩ = false) : RowAt W b f :=
  ⟨fun j v hv => by
      have hj : j < 64 := by have := (List.getElem?_eq_some_iff.1 hv).1; rwa [Fld_length] at this
      rw [Nat.zero_add, h1 j hj, ← Fld_at f j hj]
      simpa using hv,
   fun j hj => by rw [Nat.zero_add, h1 j hj]; exact ⟨rfl, h2 j hj⟩⟩
theorem RowAt.kept {W W' : World} {row : Option Nat} {b : Nat} {f : Nat → Nat} (h : RowAt W b f) (hg : W.grownBy W' row) (hr : ∀ r, row = some r → ∃ o : Obj, W.heap[r]? = some o ∧ o.isCells = false) : RowAt W' b f :=
  rowAt_mk (fun i hi => cell_kept (h.cell i hi) hg hr) (fun i hi => (frozen_kept (h.cell i hi) hg hr).trans (h.free i hi))
theorem RowAt.below {n : Nat} {W W' : World} {b : Nat} {f : Nat → Nat} (h : RowAt W b f) (hb : Below n W W') (hn : b < n) : RowAt W' b f :=
  rowAt_mk (fun i hi => (hb.cell (p := ⟨b, i, none⟩) hn).trans (h.cell i hi)) (fun i hi => (hb.frozen (p := ⟨b, i, none⟩) hn).trans (h.free i hi))
theorem RowAt.put {W : World} {b : Nat} {f : Nat → Nat} (h : RowAt W b f) (k x : Nat) (hk : k < 64) : RowAt (W.setCell ⟨b, k, none⟩ (.float .f32 x)) b (fun i => if i = k then x else f i) :=
  rowAt_mk (fun i hi => by
      by_cases e : i = k
      · subst e
        rw [World.cell?_setCell_same _ _ _ (h.cell i hi), if_pos rfl]
      · rw [World.cell?_setCell_other _ _ _ _ (fun h => e (by injection h with _ h2 _; exact h2.symm)), if_neg e]
        exact h.cell i hi)
    (fun i hi => by rw [World.frozen?_setCell]; exact h.free i hi)
theorem RowAt.far {W : World} {b b' : Nat} {f : Nat → Nat} (h : RowAt W b f) (k : Nat) (v : Value) (hne : b' ≠ b) : RowAt (W.setCell ⟨b', k, none⟩ v) b f :=
  rowAt_mk (fun i hi => by rw [World.cell?_setCell_other _ _ _ _ (fun h => hne (by injection h))]; exact h.cell i hi)
    (fun i hi => by rw [World.frozen?_setCell]; exact h.free i hi)
theorem RowAt.congr {W : World} {b : Nat} {f g : Nat → Nat} (h : RowAt W b f) (e : ∀ i, i < 64 → f i = g i) : RowAt W b g :=
  rowAt_mk (fun i hi => by rw [h.cell i hi, e i hi]) (fun i hi => h.free i hi)

/-- A field without the numbers of a list. -/
def strike (f : Nat → Nat) (l : List Nat) (i : Nat) : Nat := if i ∈ l then 0 else f i
/-- A field without the numbers of a mask. -/
def outF (f : Nat → Nat) (m i : Nat) : Nat := if m.testBit i = true then 0 else f i
theorem strike_bits {f : Nat → Nat} {m i : Nat} (h : i < 64) : strike f (bitsL m) i = outF f m i := by
  simp [strike, outF, mem_bitsL, h]

/-- Three blocks, one behind the other. -/
theorem three_blocks (f : Nat → Nat) (m : Nat) (t u v : TypeId) (w : World) : ∃ W, ((w.alloc (.cells (Fld f) t)).alloc (.cells (Fld zf) u)).alloc (.cells #[.int .u64 m] v) = W ∧ W.heap.size = w.heap.size + 3 ∧
    RowAt W w.heap.size f ∧ RowAt W (w.heap.size + 1) zf ∧ W.cell? ⟨w.heap.size + 1 + 1, 0, none⟩ = some (.int .u64 m) ∧ Below w.heap.size w W := by
  obtain ⟨W1, hW1⟩ : ∃ W1, w.alloc (.cells (Fld f) t) = W1 := ⟨_, rfl⟩
  obtain ⟨W2, hW2⟩ : ∃ W2, W1.alloc (.cells (Fld zf) u) = W2 := ⟨_, rfl⟩
  have z1 : W1.heap.size = w.heap.size + 1 := by rw [← hW1]; simp
  have z2 : W2.heap.size = w.heap.size + 1 + 1 := by rw [← hW2]; simp [z1]
  have b1 : Below w.heap.size w W1 := by rw [← hW1]; exact (Below.refl _ _).alloc (Nat.le_refl _) _
  have b2 : Below w.heap.size w W2 := by rw [← hW2]; exact b1.alloc (by omega) _
  have r1 : RowAt W1 w.heap.size f := by
    rw [← hW1]
    exact ⟨rangeAt_row (heap_alloc_last w _), there_row (heap_alloc_last w _) (Fld_size f)⟩
  have r2 : RowAt W2 (w.heap.size + 1) zf := by
    rw [← hW2, ← z1]
    exact ⟨rangeAt_row (heap_alloc_last W1 _), there_row (heap_alloc_last W1 _) (Fld_size zf)⟩
  have e12 : Below W1.heap.size W1 W2 := by rw [← hW2]; exact (Below.refl _ _).alloc (Nat.le_refl _) _
  have e23 : Below W2.heap.size W2 (W2.alloc (.cells #[.int .u64 m] v)) := (Below.refl _ _).alloc (Nat.le_refl _) _
  rw [hW1, hW2]
  refine ⟨_, rfl, by simp [z2], (r1.below e12 (by omega)).below e23 (by omega), r2.below e23 (by omega), ?_, b2.alloc (by omega) _⟩
  have := cell_of_row (W2.alloc (.cells #[.int .u64 m] v)) W2.heap.size 0 _ _ _ (heap_alloc_last W2 _)
  rw [z2] at this
  exact this

theorem heap_setCells_other {b k : Nat} (vs : List Value) (h : k ≠ b) : ∀ {o : Nat} {W : World}, (W.setCells b o vs).heap[k]? = W.heap[k]? := by
  induction vs with
  | nil => intro o W; rfl
  | cons v r ih => intro o W; rw [World.setCells, ih, heap_setCell_other _ _ _ _ h]
theorem range_put {W : World} {D b o : Nat} {cs : List Value} {x : Obj} (hD : W.heap[D]? = some (.deferred (some []))) (h : W.rangeAt b o cs) : (W.putObj D x).rangeAt b o cs :=
  fun j v hv => cell_kept (h j v hv) (grownBy_putObj' _ D x) (fun r e => by cases e; exact ⟨_, hD, rfl⟩)

end

section
open Go.RowKit Go.Shelf
attribute [local go_sem] Oper.semAt_some run_store_float
set_option linter.unusedSimpArgs false

def extN (n : Int) : Bool := decide (2 ≤ n) && decide (n ≤ 8)
/-- A ground's box and a bool behind it. -/
theorem vg_two (G : Gd) (t u : TypeId) (w : World) : ∃ W, (w.alloc (.cells (Grd G) t)).alloc (.cells #[.bool false] u) = W ∧ W.heap.size = w.heap.size + 1 + 1 ∧ GrdAt W w.heap.size 0 G ∧
    W.cell? ⟨w.heap.size + 1, 0, none⟩ = some (.bool false) ∧ W.frozen? ⟨w.heap.size + 1, 0, none⟩ = false ∧ Below w.heap.size w W := by
  obtain ⟨W, hW, hz, h1, h2, hb⟩ := two_boxes (Grd G) #[.bool false] t u w
  have hl := heap_alloc_last (w.alloc (.cells (Grd G) t)) (.cells #[.bool false] u)
  rw [hW, show (w.alloc (.cells (Grd G) t)).heap.size = w.heap.size + 1 by simp] at hl
  exact ⟨W, hW, hz, grdAt h1, h2 0 _ rfl, (there_row (n := 1) hl rfl 0 (by omega)).2, hb⟩

theorem results_cell_bool {P : Program} {fn : Func} {p : Tmp} {ty : TypeId} (h : fn.results = #[.cell p ty]) (hu : P.underlying ty = some .bool) (tmps : Array Value) (w : World) (b o : Nat) (x : Bool)
    (hp : tmps.getD p undef = .pointer (some ⟨b, o, none⟩)) (hc : w.cell? ⟨b, o, none⟩ = some (.bool x)) : (results fn tmps).run P w = .ok (.bool x) w := by
  have hp' : tmps[p]?.getD undef = .pointer (some ⟨b, o, none⟩) := by simpa using hp
  simp [results, h, hp', asAddr, isAgg, run_underlying hu, go_sem, hc]

/-- A cell's numbers are as they must be. -/
def cellOk (G : Gd) (i : Nat) : Bool := plainB (G.c i) && (!negB (G.c i) && (plainB (G.g i) && plainB (G.h i)))

/-- A ground's box, a bool and a mask. -/
theorem vg_three (w : World) (G : Gd) (m : Nat) (v : TypeId) (n : Nat) {W : World} (hz : W.heap.size = n + 1 + 1) (hg : GrdAt W n 0 G) (hc : W.cell? ⟨n + 1, 0, none⟩ = some (.bool false)) (hf : W.frozen? ⟨n + 1, 0, none⟩ = false) (hB : Below n w W) : ∃ V, W.alloc (.cells #[.int .u64 m] v) = V ∧ V.heap.size = n + 1 + 1 + 1 ∧ GrdAt V n 0 G ∧
    V.cell? ⟨n + 1, 0, none⟩ = some (.bool false) ∧ V.frozen? ⟨n + 1, 0, none⟩ = false ∧ V.cell? ⟨n + 1 + 1, 0, none⟩ = some (.int .u64 m) ∧ Below n w V := by
  have b : Below W.heap.size W (W.alloc (.cells #[.int .u64 m] v)) := (Below.refl _ _).alloc (Nat.le_refl _) _
  have hl := cell_of_row (W.alloc (.cells #[.int .u64 m] v)) W.heap.size 0 _ _ _ (heap_alloc_last W _)
  rw [hz] at hl
  exact ⟨_, rfl, by simp [hz], hg.below b (by omega), (b.cell (p := ⟨n + 1, 0, none⟩) (by simp; omega)).trans hc, (b.frozen (p := ⟨n + 1, 0, none⟩) (by simp; omega)).trans hf, hl, hB.alloc (by omega) _⟩

theorem grd_own {W W' : World} {row : Option Nat} {b o : Nat} {G : Gd} (h : GrdAt W b o G) (hg : W.grownBy W' row) (hr : ∀ r, row = some r → ∃ o : Obj, W.heap[r]? = some o ∧ o.isCells = false) : GrdAt W' b o G :=
  ⟨cell_kept h.wide hg hr, cell_kept h.high hg hr, fun j v hv => cell_kept (h.c j v hv) hg hr, fun j v hv => cell_kept (h.g j v hv) hg hr, fun j v hv => cell_kept (h.h j v hv) hg hr, cell_kept h.x hg hr⟩

/-- A store of a bool where a cell is there. -/
theorem run_store_there {P : Program} {w : World} {b o : Nat} (h : w.there b o 1) (x : Bool) (m : Mode) : (store ⟨b, o, none⟩ (.bool x) m).run P w = .ok () (w.setCell ⟨b, o, none⟩ (.bool x)) := by
  obtain ⟨h1, h2⟩ := h 0 (by omega)
  rw [Nat.add_zero] at h1 h2
  obtain ⟨u, hu⟩ := Option.isSome_iff_exists.1 h1
  rw [run_store_bool, stored, hu, h2]
  rfl

/-- What is known of the world besides the fields, while the last statement of ValidGround is carried out. -/
structure VgR (w : World) (n N D : Nat) (w' : World) : Prop where
  below : Below n w w'
  dl : w'.heap[D]? = some (.deferred (some []))
  n1 : n + 1 < w'.heap.size
  nN : N < w'.heap.size
theorem range_below {n b o : Nat} {W V : World} {cs : List Value} (hc : W.rangeAt b o cs) (h : Below n W V) (hb : b < n) : V.rangeAt b o cs := range_kept hc hb V h
theorem vg_step {w : World} {G : Gd} {n N D : Nat} {a b : World} (h : a.rangeAt n 2 (Fld G.c).toList ∧ a.rangeAt n 66 (Fld G.g).toList ∧ a.rangeAt n 130 (Fld G.h).toList ∧ a.rangeAt N 0 (Fld zf).toList ∧ a.there (n + 1) 0 1 ∧ Hid (VgR w n N D a)) (k : Below a.heap.size a b) :
    b.rangeAt n 2 (Fld G.c).toList ∧ b.rangeAt n 66 (Fld G.g).toList ∧ b.rangeAt n 130 (Fld G.h).toList ∧ b.rangeAt N 0 (Fld zf).toList ∧ b.there (n + 1) 0 1 ∧ Hid (VgR w n N D b) := by
  obtain ⟨h1, h2, h3, h4, h5, h6⟩ := h
  have h6 := h6.out
  have q1 := h6.n1
  have hD : D < a.heap.size := by have := (Array.getElem?_eq_some_iff.1 h6.dl).1; exact this
  exact ⟨range_below h1 k (by omega), range_below h2 k (by omega), range_below h3 k (by omega), range_below h4 k h6.nN, there_below h5 k h6.n1,
    ⟨h6.below.trans (k.mono (by omega)), (k.block D hD).trans h6.dl, by have := k.size; omega, by have := k.size; have := h6.nN; omega⟩⟩
theorem vg_put {w : World} {G : Gd} {n N D : Nat} {a : World} (v : Value) (hN : N ≠ n + 1) (hn : n ≤ n + 1) (hDn : D ≠ n + 1) (h : a.rangeAt n 2 (Fld G.c).toList ∧ a.rangeAt n 66 (Fld G.g).toList ∧ a.rangeAt n 130 (Fld G.h).toList ∧ a.rangeAt N 0 (Fld zf).toList ∧ a.there (n + 1) 0 1 ∧ Hid (VgR w n N D a)) :
    (a.setCell ⟨n + 1, 0, none⟩ v).rangeAt n 2 (Fld G.c).toList ∧ (a.setCell ⟨n + 1, 0, none⟩ v).rangeAt n 66 (Fld G.g).toList ∧ (a.setCell ⟨n + 1, 0, none⟩ v).rangeAt n 130 (Fld G.h).toList ∧ (a.setCell ⟨n + 1, 0, none⟩ v).rangeAt N 0 (Fld zf).toList ∧ (a.setCell ⟨n + 1, 0, none⟩ v).there (n + 1) 0 1 ∧ Hid (VgR w n N D (a.setCell ⟨n + 1, 0, none⟩ v)) := by
  obtain ⟨h1, h2, h3, h4, h5, h6⟩ := h
  have h6 := h6.out
  have far : ∀ {b o : Nat} {cs : List Value}, b ≠ n + 1 → a.rangeAt b o cs → (a.setCell ⟨n + 1, 0, none⟩ v).rangeAt b o cs := fun hb hr j x hx => by
    rw [World.cell?_setCell_other _ _ _ _ (fun e => hb (by injection e with e; exact e.symm))]
    exact hr j x hx
  refine ⟨far (by omega) h1, far (by omega) h2, far (by omega) h3, far hN h4, fun j hj => ?_, ⟨h6.below.setCell (p := ⟨n + 1, 0, none⟩) hn _, ?_, by rw [World.size_setCell]; exact h6.n1, by rw [World.size_setCell]; exact h6.nN⟩⟩
  · have : j = 0 := by omega
    subst this
    refine ⟨?_, by rw [World.frozen?_setCell]; exact (h5 0 hj).2⟩
    rw [Nat.zero_add, World.cell?_setCell_same' _ _ _ (by have := (h5 0 hj).1; rwa [Nat.zero_add] at this)]
    rfl
  · rw [heap_setCell_other _ _ _ _ hDn]; exact h6.dl
theorem size_setCells (b : Nat) : ∀ (vs : List Value) (o : Nat) (w : World), (w.setCells b o vs).heap.size = w.heap.size
  | [], _, _ => rfl
  | v :: r, o, w => by rw [World.setCells, size_setCells b r, World.size_setCell]
theorem vg_nil {w : World} {G : Gd} {n D : Nat} {W : World} (t : TypeId) (hD : W.heap[D]? = some (.deferred (some []))) (hn : n + 1 < W.heap.size) (hg : GrdAt W n 0 G) (hc : W.cell? ⟨n + 1, 0, none⟩ = some (.bool false)) (hf : W.frozen? ⟨n + 1, 0, none⟩ = false) (hB : Below n w W) :
    ∃ U, (W.alloc (.cells (Fld zf) t)).setCells W.heap.size 0 (Fld zf).toList = U ∧
      (U.rangeAt n 2 (Fld G.c).toList ∧ U.rangeAt n 66 (Fld G.g).toList ∧ U.rangeAt n 130 (Fld G.h).toList ∧ U.rangeAt W.heap.size 0 (Fld zf).toList ∧ U.there (n + 1) 0 1 ∧ Hid (VgR w n W.heap.size D U)) := by
  have b1 : Below W.heap.size W ((W.alloc (.cells (Fld zf) t)).setCells W.heap.size 0 (Fld zf).toList) := below_setCells _ (Nat.le_refl _) _ _ _ ((Below.refl _ _).alloc (Nat.le_refl _) _)
  have hDl : D < W.heap.size := (Array.getElem?_eq_some_iff.1 hD).1
  have hz : ((W.alloc (.cells (Fld zf) t)).setCells W.heap.size 0 (Fld zf).toList).heap.size = W.heap.size + 1 := by rw [size_setCells]; simp
  have g2 := hg.below b1 (by omega)
  have tt : W.there (n + 1) 0 1 := fun j hj => by
    have : j = 0 := by omega
    subst this
    exact ⟨by rw [Nat.zero_add, hc]; rfl, hf⟩
  refine ⟨_, rfl, by have := g2.c; rwa [Nat.zero_add] at this, by have := g2.g; rwa [Nat.zero_add] at this, by have := g2.h; rwa [Nat.zero_add] at this, World.rangeAt_setCells_same _ _ _ _ ?_, there_below tt b1 hn, ⟨hB.trans (b1.mono (by omega)), (b1.block D hDl).trans hD, by omega, by omega⟩⟩
  exact there_row (heap_alloc_last W _) (by rw [Fld_length]; rfl)

theorem vg_drew {w : World} {G : Gd} {n N D : Nat} {a : World} (h : a.rangeAt n 2 (Fld G.c).toList ∧ a.rangeAt n 66 (Fld G.g).toList ∧ a.rangeAt n 130 (Fld G.h).toList ∧ a.rangeAt N 0 (Fld zf).toList ∧ a.there (n + 1) 0 1 ∧ Hid (VgR w n N D a)) :
    a.drew.rangeAt n 2 (Fld G.c).toList ∧ a.drew.rangeAt n 66 (Fld G.g).toList ∧ a.drew.rangeAt n 130 (Fld G.h).toList ∧ a.drew.rangeAt N 0 (Fld zf).toList ∧ a.drew.there (n + 1) 0 1 ∧ Hid (VgR w n N D a.drew) :=
  ⟨h.1, h.2.1, h.2.2.1, h.2.2.2.1, h.2.2.2.2.1, ⟨h.2.2.2.2.2.out.below.drew, h.2.2.2.2.2.out.dl, h.2.2.2.2.2.out.n1, h.2.2.2.2.2.out.nN⟩⟩
attribute [local go_sem] eqlFld guard_fld
attribute [local go_sem high] run_store_there

/-- The comparison of two fields, as an operation. -/
theorem run_eql_fld {op : Oper} {a : Act} {x y : Operand} {f g : Nat → Nat} {t : TypeId} (ho : op.op = .binOp .eql 31 x y t) (hx : a.eval x = .agg (Fld f)) (hy : a.eval y = .agg (Fld g)) (w : World) : (execOp a.eval op).run Try.prog w = .ok (.value (.bool (eqF f g))) w := by
  unfold execOp
  simp only [ho, hx, hy]
  go_simp

/-- A bool is stored. -/
theorem run_store_op {op : Oper} {a : Act} {x y : Operand} {w : World} {b o : Nat} {v : Bool} (ho : op.op = .store 4 x y) (hx : a.eval x = .pointer (some ⟨b, o, none⟩)) (hy : a.eval y = .bool v) (h : w.there b o 1) :
    (execOp a.eval op).run Try.prog w = .ok .skip (w.setCell ⟨b, o, none⟩ (.bool v)) := by
  obtain ⟨h1, h2⟩ := h 0 (by omega)
  rw [Nat.add_zero] at h1 h2
  obtain ⟨u, hu⟩ := Option.isSome_iff_exists.1 h1
  clear h h1
  unfold execOp
  simp only [ho, hx, hy]
  go_simp

end

section
open Go.RowKit
set_option linter.unusedSimpArgs false

theorem all_congr64 {p q : Nat → Bool} (h : ∀ i, i < 64 → p i = q i) : (List.range 64).all p = (List.range 64).all q := by
  rw [Bool.eq_iff_iff]
  simp only [List.all_eq_true, List.mem_range]
  exact ⟨fun g i hi => by rw [← h i hi]; exact g i hi, fun g i hi => by rw [h i hi]; exact g i hi⟩
theorem order_zero : FloatKind.f32.format.order 0 0 = some Ordering.eq := by decide +kernel
theorem eqF_out (f : Nat → Nat) (G : Gd) : eqF (outF f (cellsN G)) zf = (List.range 64).all fun i => isB G i || zeroB (f i) := by
  unfold eqF
  refine all_congr64 fun i h64 => ?_
  unfold outF zf zeroB
  rw [cellsN_testBit]
  cases h : isB G i
  · simp
  · simp [h64, order_zero]

theorem all_and (p q : Nat → Bool) : ((List.range 64).all p && (List.range 64).all q) = (List.range 64).all fun i => p i && q i := by
  rw [Bool.eq_iff_iff]
  simp only [Bool.and_eq_true, List.all_eq_true, List.mem_range]
  exact ⟨fun h i hi => ⟨h.1 i hi, h.2 i hi⟩, fun h => ⟨fun i hi => (h i hi).1, fun i hi => (h i hi).2⟩⟩

theorem zero_not_neg {b : Nat} (h : zeroB b = true) : negB b = false := by
  unfold zeroB at h
  unfold negB
  rw [beq_iff_eq] at h
  rw [h]
  rfl

theorem fields_eq (G : Gd) : (fieldB G G.c && (fieldB G G.g && (fieldB G G.h && noNeg G))) =
    ((List.range 64).all (fun i => !isB G i || cellOk G i) && (eqF (outF G.c (cellsN G)) zf && (eqF (outF G.g (cellsN G)) zf && eqF (outF G.h (cellsN G)) zf))) := by
  rw [eqF_out, eqF_out, eqF_out]
  unfold fieldB noNeg
  simp only [all_and]
  refine all_congr64 fun i _ => ?_
  unfold okAt cellOk
  cases isB G i
  · cases hc : zeroB (G.c i)
    · simp
    · simp [zero_not_neg hc]
  · simp
    cases plainB (G.c i) <;> cases plainB (G.g i) <;> cases plainB (G.h i) <;> cases negB (G.c i) <;> rfl

theorem validB_eq (G : Gd) : validB G = (extN G.wide && (extN G.high && (((G.x != 0) && fixB G) && ((List.range 64).all (fun i => !isB G i || cellOk G i) && (eqF (outF G.c (cellsN G)) zf && (eqF (outF G.g (cellsN G)) zf && eqF (outF G.h (cellsN G)) zf)))))) := by
  rw [← fields_eq]
  unfold validB extB extN
  generalize fieldB G G.c = a
  generalize fieldB G G.g = b
  generalize fieldB G G.h = c
  generalize noNeg G = d
  generalize (G.x != 0) = e
  generalize fixB G = f
  generalize decide (2 ≤ G.wide) = g
  generalize decide (G.wide ≤ 8) = h
  generalize decide (2 ≤ G.high) = i
  generalize decide (G.high ≤ 8) = j
  cases g <;> cases h <;> cases i <;> cases j <;> cases a <;> cases b <;> cases c <;> cases d <;> cases e <;> cases f <;> rfl

/-- What a valid ground's extents are. -/
theorem valid_ext {G : Gd} (h : validB G = true) : 2 ≤ G.wide ∧ G.wide ≤ 8 ∧ 2 ≤ G.high ∧ G.high ≤ 8 := by
  unfold validB extB at h
  simp only [Bool.and_eq_true, decide_eq_true_eq] at h
  exact ⟨h.1.1.1, h.1.1.2, h.1.2.1, h.1.2.2⟩

end

section
open Go.RowKit
set_option linter.unusedSimpArgs false

/-- There is a cell with a number, any number. -/
def inB (G : Gd) (c : Int) : Bool := decide (0 ≤ c) && decide (c ≤ 63) && isB G c.toNat
theorem inB_nat (G : Gd) (i : Nat) (hi : i < 64) : inB G i = isB G i := by
  have h1 : (0 : Int) ≤ i := by omega
  have h2 : (i : Int) ≤ 63 := by omega
  simp [inB, h1, h2]
theorem inB_cast {G : Gd} {c : Int} (h : inB G c = true) : ∃ k : Nat, c = k ∧ k < 64 ∧ isB G k = true := by
  simp only [inB, Bool.and_eq_true, decide_eq_true_eq] at h
  exact ⟨c.toNat, by omega, by omega, h.2⟩

/-- The code of a ground and a cell. -/
def askedN (G : Gd) (c : Int) : Int := if validB G = true then (if inB G c = true then 0 else 2) else 1
theorem ret_i64 {a b : Int} (h : a = b) : Ending.returned (.int .i64 a) = .returned (.int .i64 b) := by rw [h]

/-- A side. -/
def sideB (s : Int) : Bool := decide (0 ≤ s) && decide (s ≤ 3)
/-- The code of a ground, a cell and a side. -/
def sidedN (G : Gd) (c s : Int) : Int := if askedN G c = 0 then (if sideB s = true then 0 else 2) else askedN G c

theorem askedN_012 (G : Gd) (c : Int) : askedN G c = 0 ∨ askedN G c = 1 ∨ askedN G c = 2 := by
  unfold askedN
  split
  · split
    · exact .inl rfl
    · exact .inr (.inr rfl)
  · exact .inr (.inl rfl)

/-- A ground that has been made, and its code. -/
def madeG (G : Gd) : Gd := if validB G = true then G else zG
def madeN (G : Gd) : Int := if validB G = true then 0 else 4
end

section
open Go.RowKit
set_option linter.unusedSimpArgs false

/-- A ground and a number, as a result. -/
def GN (G : Gd) (n : Int) : Value := .tuple #[.agg (Grd G), .int .i64 n]

theorem infoG195 : (Try.prog.info? 33).map (·.size) = some 195 := infoGround

/-- The end of a function that returns a ground in a block and a number. -/
theorem ret_GN {fn : Func} {p q : Tmp} (h : fn.results = #[.cell p 33, .tmp q]) {tmps : Array Value} {w : World} {b : Nat} {G : Gd} {n : Int}
    (hp : tmps.getD p undef = .pointer (some ⟨b, 0, none⟩)) (hq : tmps.getD q undef = .int .i64 n) (hc : w.rangeAt b 0 (GrdL G)) : (results fn tmps).run Try.prog w = .ok (GN G n) w :=
  results_grd_int h tmps w b G n hp hq hc Try.underlying33 rfl infoG195

end

section
open Go.RowKit
set_option linter.unusedSimpArgs false

/-- A place. -/
def Plc (x y : Int) : Value := .agg #[.int .i64 x, .int .i64 y]

theorem tdm (c : Int) : (0 ≤ c → c.tdiv 8 = c / 8 ∧ c.tmod 8 = c % 8) ∧ (c < 0 → c.tdiv 8 = -((-c) / 8) ∧ c.tmod 8 = -((-c) % 8)) := by
  refine ⟨fun h => ⟨Int.tdiv_eq_ediv_of_nonneg h, Int.tmod_eq_emod_of_nonneg h⟩, fun h => ?_⟩
  have h0 : 0 ≤ -c := by omega
  have e1 : c.tdiv 8 = -((-c).tdiv 8) := by rw [Int.neg_tdiv]; omega
  have e2 : c.tmod 8 = -((-c).tmod 8) := by rw [Int.neg_tmod]; omega
  rw [e1, e2, Int.tdiv_eq_ediv_of_nonneg h0, Int.tmod_eq_emod_of_nonneg h0]
  exact ⟨rfl, rfl⟩

/-- A place is one of a cell. -/
def holdB (G : Gd) (x y : Int) : Bool := decide (0 ≤ x) && (decide (x < G.wide) && (decide (0 ≤ y) && decide (y < G.high)))

/-- A number of a cell, as the program finds out. -/
theorem hold_in (G : Gd) (c : Int) (hv : validB G = true) : holdB G (c.tmod 8) (c.tdiv 8) = inB G c := by
  obtain ⟨v1, v2, v3, v4⟩ := valid_ext hv
  rw [Bool.eq_iff_iff]
  simp only [holdB, inB, isB, Bool.and_eq_true, decide_eq_true_eq]
  have ht := tdm c
  by_cases h0 : 0 ≤ c
  · rw [(ht.1 h0).1, (ht.1 h0).2]
    clear ht
    constructor
    · rintro ⟨h1, h2, h3, h4⟩
      refine ⟨⟨h0, by omega⟩, by omega, by omega⟩
    · rintro ⟨⟨h1, h2⟩, h3, h4⟩
      refine ⟨by omega, by omega, by omega, by omega⟩
  · rw [(ht.2 (by omega)).1, (ht.2 (by omega)).2]
    clear ht
    constructor
    · rintro ⟨h1, h2, h3, h4⟩
      exfalso
      omega
    · rintro ⟨⟨h1, h2⟩, h3, h4⟩
      exfalso
      omega

end
end Go.Proofs.Ytjmekgogaiokpab
