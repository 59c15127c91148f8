/- Where water goes: a flow that is more than 0 goes to a lesser head, so a way ends. No condition. -/
import Derived.Test.YtjhaonfdapldcaaDoorFlows
import Derived.Test.YtjhaonfdapldcaaDoorNeg
import Derived.Test.YtjhaonfdapldcaaDoorPlain
namespace Go.Proofs.YtjhaonfdapldcaaDoor
open Go Go.RowKit Ieee
set_option linter.unusedSimpArgs false
set_option linter.unusedVariables false

theorem word_negW (s : Bool) (r : Nat) (h : r ≤ 2139095040) : (single.read (single.word s r)).neg = s := by
  have hw : single.signWeight = 2147483648 := by decide
  have : ∀ b, (single.read b).neg = (b / 2147483648 % 2 == 1) := by
    intro b
    unfold Format.read
    rw [hw]
    simp only []
    split
    · rfl
    · split
      · rfl
      · split
        · rfl
        · rfl
  rw [this]
  unfold Format.word
  rw [hw]
  cases s
  · simp only [Bool.false_eq_true, if_false]
    have : r / 2147483648 = 0 := by omega
    rw [this]; rfl
  · simp only [if_true]
    have : (2147483648 + r) / 2147483648 = 1 := by omega
    rw [this]; rfl
theorem write_negW (d : Datum) (h : d.isNaN = false) : (single.read (single.write d)).neg = d.neg := by
  have hi : single.infRung = 2139095040 := by decide
  cases d with
  | number s m i =>
    show (single.read (single.nearest s m i)).neg = s
    unfold Format.nearest
    split
    · exact word_negW s 0 (by decide)
    · refine word_negW s _ ?_
      rw [← hi]
      exact Nat.min_le_right _ _
  | infinity s => exact word_negW s _ (by rw [hi]; exact Nat.le_refl _)
  | nan s f => simp [Datum.isNaN] at h


theorem sf_nn (m k : Nat) : 0 ≤ signed false m k := by
  unfold signed
  rw [if_neg (by decide)]
  exact Int.natCast_nonneg _
theorem st_np (m k : Nat) : signed true m k ≤ 0 := by
  unfold signed
  rw [if_pos rfl]
  have := Int.natCast_nonneg (m <<< k)
  obtain ⟨z, hz⟩ : ∃ z : Int, ((m <<< k : Nat) : Int) = z := ⟨_, rfl⟩
  rw [hz] at this ⊢
  omega
theorem s_zero (s : Bool) (k : Nat) : signed s 0 k = 0 := by
  unfold signed
  cases s <;> simp
theorem sf_pos {m : Nat} (hm : m ≠ 0) (k : Nat) : 0 < signed false m k := by
  unfold signed
  rw [if_neg (by decide), Nat.shiftLeft_eq]
  exact Int.natCast_pos.2 (Nat.mul_pos (by omega) (Nat.two_pow_pos _))
theorem s_pos {s : Bool} {m k : Nat} (h : 0 < signed s m k) : s = false ∧ m ≠ 0 := by
  cases s
  · refine ⟨rfl, fun h0 => ?_⟩
    subst h0
    rw [s_zero] at h
    omega
  · have := st_np m k
    omega
/-- A number that is more than 0. -/
theorem pos_read {b : Nat} (h : FloatKind.f32.format.order b 0 = some Ordering.gt) : single.read b = .infinity false ∨ ∃ m i, single.read b = .number false m i ∧ m ≠ 0 := by
  have hz : single.read 0 = .number false 0 (-149) := by decide
  have h' : (single.read b).order (single.read 0) = some Ordering.gt := h
  rw [hz] at h'
  cases hr : single.read b with
  | nan s f => rw [hr] at h'; cases h'
  | infinity s =>
    rw [hr] at h'
    cases s
    · exact .inl rfl
    · cases h'
  | number s m i =>
    rw [hr] at h'
    have h2 : compare (signed s m (i - min i (-149)).toNat) (signed false 0 (-149 - min i (-149)).toNat) = Ordering.gt := Option.some.inj h'
    have h3 : signed false 0 (-149 - min i (-149)).toNat = 0 := by simp [signed]
    rw [h3] at h2
    have h4 : 0 < signed s m (i - min i (-149)).toNat := by
      simp only [compare, compareOfLessAndEq] at h2
      split at h2
      · cases h2
      · split at h2
        · cases h2
        · omega
    obtain ⟨rfl, hm⟩ := s_pos h4
    exact .inr ⟨m, i, rfl, hm⟩
theorem read_pos {b : Nat} (h : single.read b = .infinity false ∨ ∃ m i, single.read b = .number false m i ∧ m ≠ 0) : FloatKind.f32.format.order b 0 = some Ordering.gt := by
  have hz : single.read 0 = .number false 0 (-149) := by decide
  show (single.read b).order (single.read 0) = some Ordering.gt
  rw [hz]
  rcases h with h | ⟨m, i, h, hm⟩
  · rw [h]; rfl
  · rw [h]
    show some (compare (signed false m (i - min i (-149)).toNat) (signed false 0 (-149 - min i (-149)).toNat)) = _
    have h3 : signed false 0 (-149 - min i (-149)).toNat = 0 := by simp [signed]
    have h4 := sf_pos hm (i - min i (-149)).toNat
    rw [h3]
    congr 1
    simp only [compare, compareOfLessAndEq]
    rw [if_neg (by omega), if_neg (by omega)]
/-- A number without a minus. -/
def NN (o : Option Nat) : Prop := ∀ x, o = some x → (single.read x).neg = false
theorem NN.num (x : Nat) (h : (single.read x).neg = false) : NN (num .f32 x) := fun y hy => by
  have := (num_eq_some hy).1
  rw [← this]; exact h
theorem write_pos {d : Datum} (hd : d.isNaN = false) (h : FloatKind.f32.format.order (single.write d) 0 = some Ordering.gt) : d.neg = false ∧ ∀ s m i, d = .number s m i → m ≠ 0 := by
  have h1 := pos_read h
  have h2 := write_negW d hd
  refine ⟨?_, fun s m i e h0 => ?_⟩
  · rw [← h2]
    rcases h1 with h1 | ⟨m, i, h1, _⟩ <;> rw [h1] <;> rfl
  · subst e
    subst h0
    have h3 : single.read (single.write (.number s 0 i)) = .number s 0 (-149) := by
      show single.read (single.nearest s 0 i) = _
      unfold Format.nearest
      rw [if_pos rfl]
      cases s <;> decide
    rw [h3] at h1
    rcases h1 with h1 | ⟨m, j, h1, hm⟩
    · cases h1
    · cases h1; exact hm rfl
theorem fop_mul {a b : Option Nat} {r : Nat} (h : fop .f32 .mul a b = some r) : ∃ x y d, a = some x ∧ b = some y ∧ (single.read x).product (single.read y) = some d ∧ r = single.write d := by
  cases a with
  | none => cases h
  | some x =>
    cases b with
    | none => cases h
    | some y =>
      have h' : ((single.read x).product (single.read y)).map single.write = some r := h
      obtain ⟨d, h1, h2⟩ := Option.map_eq_some_iff.1 h'
      exact ⟨x, y, d, rfl, rfl, h1, h2.symm⟩
theorem prod_nn {p q d : Datum} (h : p.product q = some d) (hp : p.neg = false) : d.isNaN = false ∧ d.neg = q.neg ∧ ∀ t n j, q = .number t n j → n = 0 → ∃ s m i, d = .number s m i ∧ m = 0 := by
  cases p with
  | nan s f => cases q <;> cases h
  | infinity s =>
    have hs : s = false := hp
    subst hs
    cases q with
    | nan t f => cases h
    | infinity t => cases h; exact ⟨rfl, by cases t <;> rfl, fun _ _ _ e => by cases e⟩
    | number t n j =>
      have h' : (if n = 0 then none else some (Datum.infinity (false ^^ t))) = some d := h
      split at h'
      · cases h'
      · rename_i hn
        cases h'
        exact ⟨rfl, by cases t <;> rfl, fun _ _ _ e e0 => by cases e; exact absurd e0 hn⟩
  | number s m i =>
    have hs : s = false := hp
    subst hs
    cases q with
    | nan t f => cases h
    | infinity t =>
      have h' : (if m = 0 then none else some (Datum.infinity (t ^^ false))) = some d := h
      split at h'
      · cases h'
      · cases h'
        exact ⟨rfl, by cases t <;> rfl, fun _ _ _ e => by cases e⟩
    | number t n j =>
      cases h
      exact ⟨rfl, by cases t <;> rfl, fun _ _ _ e e0 => by cases e; subst e0; exact ⟨_, _, _, rfl, Nat.mul_zero _⟩⟩
/-- A product with a factor that is not negative. -/
theorem mul_pos {a b : Option Nat} {r : Nat} (h : fop .f32 .mul a b = some r) (ha : NN a) (hr : FloatKind.f32.format.order r 0 = some Ordering.gt) : ∃ y, b = some y ∧ FloatKind.f32.format.order y 0 = some Ordering.gt := by
  obtain ⟨x, y, d, rfl, rfl, hd, rfl⟩ := fop_mul h
  obtain ⟨h1, h2, h3⟩ := prod_nn hd (ha x rfl)
  obtain ⟨h4, h5⟩ := write_pos h1 hr
  refine ⟨y, rfl, read_pos ?_⟩
  rw [h2] at h4
  cases hy : single.read y with
  | nan t f => rw [hy] at hd; cases hx : single.read x <;> rw [hx] at hd <;> cases hd
  | infinity t => rw [hy] at h4; cases h4; exact .inl rfl
  | number t n j =>
    rw [hy] at h4
    have ht : t = false := h4
    subst ht
    refine .inr ⟨n, j, rfl, fun h0 => ?_⟩
    obtain ⟨s, m, i, e, e0⟩ := h3 _ _ _ hy h0
    exact h5 _ _ _ e e0
theorem nn_mul {a b : Option Nat} (ha : NN a) (hb : NN b) : NN (fop .f32 .mul a b) := fun r h => by
  obtain ⟨x, y, d, rfl, rfl, hd, rfl⟩ := fop_mul h
  obtain ⟨h1, h2, _⟩ := prod_nn hd (ha x rfl)
  rw [write_negW d h1, h2]
  exact hb y rfl
theorem nn_quo {a b : Option Nat} (ha : NN a) (hb : NN b) : NN (fop .f32 .quo a b) := fun r h => by
  cases a with
  | none => cases h
  | some x =>
    cases b with
    | none => cases h
    | some y =>
      have h' : ((single.read x).quotient (single.fractionBits + 2) (single.read y)).map single.write = some r := h
      obtain ⟨d, h1, rfl⟩ := Option.map_eq_some_iff.1 h'
      have hx := ha x rfl
      have hy := hb y rfl
      have key : d.isNaN = false ∧ d.neg = false := by
        cases hp : single.read x with
        | nan s f => rw [hp] at h1; cases hq : single.read y <;> rw [hq] at h1 <;> cases h1
        | infinity s =>
          rw [hp] at hx h1
          have hs : s = false := hx
          subst hs
          cases hq : single.read y with
          | nan t f => rw [hq] at h1; cases h1
          | infinity t => rw [hq] at h1; cases h1
          | number t n j =>
            rw [hq] at hy h1
            have ht : t = false := hy
            subst ht
            cases h1; exact ⟨rfl, rfl⟩
        | number s m i =>
          rw [hp] at hx h1
          have hs : s = false := hx
          subst hs
          cases hq : single.read y with
          | nan t f => rw [hq] at h1; cases h1
          | infinity t =>
            rw [hq] at hy h1
            have ht : t = false := hy
            subst ht
            cases h1; exact ⟨rfl, rfl⟩
          | number t n j =>
            rw [hq] at hy h1
            have ht : t = false := hy
            subst ht
            simp only [Datum.quotient] at h1
            split at h1
            · split at h1
              · cases h1
              · cases h1; exact ⟨rfl, rfl⟩
            · cases h1; exact ⟨rfl, rfl⟩
      rw [write_negW d key.1]
      exact key.2
theorem nn_add {a b : Option Nat} (ha : NN a) (hb : NN b) : NN (fop .f32 .add a b) := fun r h => by
  cases a with
  | none => cases h
  | some x =>
    cases b with
    | none => cases h
    | some y =>
      have h' : ((single.read x).sum (single.read y)).map single.write = some r := h
      obtain ⟨d, h1, rfl⟩ := Option.map_eq_some_iff.1 h'
      have hx := ha x rfl
      have hy := hb y rfl
      have key : d.isNaN = false ∧ d.neg = false := by
        cases hp : single.read x with
        | nan s f => rw [hp] at h1; cases hq : single.read y <;> rw [hq] at h1 <;> cases h1
        | infinity s =>
          rw [hp] at hx h1
          have hs : s = false := hx
          subst hs
          cases hq : single.read y with
          | nan t f => rw [hq] at h1; cases h1
          | infinity t =>
            rw [hq] at hy h1
            have ht : t = false := hy
            subst ht
            cases h1; exact ⟨rfl, rfl⟩
          | number t n j => rw [hq] at h1; cases h1; exact ⟨rfl, rfl⟩
        | number s m i =>
          rw [hp] at hx h1
          have hs : s = false := hx
          subst hs
          cases hq : single.read y with
          | nan t f => rw [hq] at h1; cases h1
          | infinity t =>
            rw [hq] at hy h1
            have ht : t = false := hy
            subst ht
            cases h1; exact ⟨rfl, rfl⟩
          | number t n j =>
            rw [hq] at hy h1
            have ht : t = false := hy
            subst ht
            simp only [Datum.sum] at h1
            cases h1
            refine ⟨rfl, ?_⟩
            show (if signed false m (i - min i j).toNat + signed false n (j - min i j).toNat = 0 then (false && false) else decide (signed false m (i - min i j).toNat + signed false n (j - min i j).toNat < 0)) = false
            have n1 := sf_nn m (i - min i j).toNat
            have n2 := sf_nn n (j - min i j).toNat
            split
            · rfl
            · exact decide_eq_false (by omega)
      rw [write_negW d key.1]
      exact key.2
theorem pos_nn {a : Nat} (h : pos a = true) : NN (num .f32 a) := NN.num a (by
  have h1 : FloatKind.f32.format.order a 0 = some Ordering.gt := by simpa [pos] using h
  rcases pos_read h1 with h | ⟨m, i, h, _⟩ <;> rw [h] <;> rfl)
theorem joint_nn (a b : Nat) : NN (joint a b) := by
  unfold joint
  split
  · rename_i h
    rw [Bool.and_eq_true] at h
    exact nn_quo (nn_mul (NN.num _ (by decide)) (nn_mul (pos_nn h.1) (pos_nn h.2))) (nn_add (pos_nn h.1) (pos_nn h.2))
  · exact NN.num _ (by decide)
/-- A difference that is more than 0. -/
theorem sub_pos {x y r : Nat} (hx : plainB x = true) (hy : plainB y = true) (h : fop .f32 .sub (num .f32 x) (num .f32 y) = some r) (hr : FloatKind.f32.format.order r 0 = some Ordering.gt) : FloatKind.f32.format.order x y = some Ordering.gt := by
  obtain ⟨s, m, i, hp, _⟩ := plain_read hx
  obtain ⟨t, n, j, hq, _⟩ := plain_read hy
  rw [fop_num] at h
  have h' : ((single.read x).sum (single.read y).opposite).map single.write = some r := h
  rw [hp, hq] at h'
  have hs : (Datum.number s m i).sum (Datum.number t n j).opposite = some (.number (if signed s m (i - min i j).toNat + signed (!t) n (j - min i j).toNat = 0 then s && !t else decide (signed s m (i - min i j).toNat + signed (!t) n (j - min i j).toNat < 0)) (signed s m (i - min i j).toNat + signed (!t) n (j - min i j).toNat).natAbs (min i j)) := rfl
  rw [hs] at h'
  have h2 := Option.some.inj h'
  rw [← h2] at hr
  obtain ⟨h3, h4⟩ := write_pos rfl hr
  have h5 := h4 _ _ _ rfl
  rw [signed_neg] at h3 h5
  show (single.read x).order (single.read y) = _
  rw [hp, hq]
  show some (compare (signed s m (i - min i j).toNat) (signed t n (j - min i j).toNat)) = _
  obtain ⟨A, hA⟩ : ∃ A, signed s m (i - min i j).toNat = A := ⟨_, rfl⟩
  obtain ⟨B, hB⟩ : ∃ B, signed t n (j - min i j).toNat = B := ⟨_, rfl⟩
  rw [hA, hB] at h3 h5 ⊢
  have h6 : A + -B ≠ 0 := fun e => by rw [e] at h5; exact h5 rfl
  have h7 : ¬ A + -B < 0 := by
    have h3' : (if A + -B = 0 then s && !t else decide (A + -B < 0)) = false := h3
    rw [if_neg h6] at h3'
    simpa using h3'
  congr 1
  simp only [compare, compareOfLessAndEq]
  rw [if_neg (by omega), if_neg (by omega)]
/-- What a plain number is, as a whole number of least units. -/
def valW (b : Nat) : Int := match single.read b with | .number s m i => signed s m (i + 149).toNat | _ => 0
theorem signed_mul (s : Bool) (m a b : Nat) : signed s m (a + b) = signed s m a * 2 ^ b := by
  unfold signed
  cases s
  · rw [if_neg (by decide), if_neg (by decide)]
    simp only [Nat.shiftLeft_eq, Nat.pow_add, Int.natCast_mul, Int.natCast_pow]
    rw [Int.mul_assoc]; rfl
  · rw [if_pos rfl, if_pos rfl]
    simp only [Nat.shiftLeft_eq, Nat.pow_add, Int.natCast_mul, Int.natCast_pow]
    rw [Int.neg_mul, Int.mul_assoc]; rfl
theorem val_gt {x y : Nat} (hx : plainB x = true) (hy : plainB y = true) (h : FloatKind.f32.format.order x y = some Ordering.gt) : valW y < valW x := by
  obtain ⟨s, m, i, hp, _, hi, _⟩ := plain_read hx
  obtain ⟨t, n, j, hq, _, hj, _⟩ := plain_read hy
  have h' : (single.read x).order (single.read y) = some Ordering.gt := h
  unfold valW
  rw [hp, hq] at h' ⊢
  have h2 : compare (signed s m (i - min i j).toNat) (signed t n (j - min i j).toNat) = Ordering.gt := Option.some.inj h'
  have h3 : signed t n (j - min i j).toNat < signed s m (i - min i j).toNat := by
    simp only [compare, compareOfLessAndEq] at h2
    split at h2
    · cases h2
    · split at h2
      · cases h2
      · omega
  have e1 : (i + 149).toNat = (i - min i j).toNat + (min i j + 149).toNat := by omega
  have e2 : (j + 149).toNat = (j - min i j).toNat + (min i j + 149).toNat := by omega
  show signed t n (j + 149).toNat < signed s m (i + 149).toNat
  rw [e1, e2, signed_mul, signed_mul]
  exact Int.mul_lt_mul_of_pos_right h3 (Int.pow_pos (by decide))
/-- A flow that is more than 0. -/
theorem flow_down {G : Gd} {i j r : Nat} (hi : plainB (G.h i) = true) (hj : plainB (G.h j) = true) (h : flowO G i j = some r) (hr : FloatKind.f32.format.order r 0 = some Ordering.gt) : FloatKind.f32.format.order (G.h i) (G.h j) = some Ordering.gt := by
  obtain ⟨y, h1, h2⟩ := mul_pos h (joint_nn _ _) hr
  exact sub_pos hi hj h1 h2
theorem nb_isB {G : Gd} (hv : validB G = true) {k : Nat} {s : Int} (h : nbB G k s = true) : isB G (nbN k s) = true := by
  have he := ext_of_valid hv
  simp only [extB, Bool.and_eq_true, decide_eq_true_eq] at he
  simp only [nbB, holdB, Bool.and_eq_true, decide_eq_true_eq] at h
  unfold isB nbN nb
  obtain ⟨x, hx⟩ : ∃ x, nx k s = x := ⟨_, rfl⟩
  obtain ⟨y, hy⟩ : ∃ y, ny k s = y := ⟨_, rfl⟩
  rw [hx, hy] at h ⊢
  simp only [Bool.and_eq_true, decide_eq_true_eq]
  omega
theorem head_plain {G : Gd} (hv : validB G = true) {k : Nat} (hk : k < 64) (hb : isB G k = true) : plainB (G.h k) = true := by
  unfold validB at hv
  simp only [Bool.and_eq_true] at hv
  have h := hv.2.2.2.1
  unfold fieldB at h
  have := List.all_eq_true.1 h k (by simpa using hk)
  simpa [okAt, hb] using this
/-- Of the first n sides of a cell, the one to which most flows, and how much. -/
def bsTo (G : Gd) (c : Nat) : Nat → Option Nat × Option Nat
  | 0 => (none, some 0)
  | n + 1 => if gtO (flowS G c (n : Int)) (bsTo G c n).2 = true then (some n, flowS G c (n : Int)) else bsTo G c n
/-- The cell to which water goes. -/
def nxtW (G : Gd) (c : Nat) : Option Nat := (bsTo G c 4).1.map fun s => nbN c (s : Int)
theorem gt_pos {x y : Nat} (h : FloatKind.f32.format.order x y = some Ordering.gt) (hy : y = 0 ∨ FloatKind.f32.format.order y 0 = some Ordering.gt) : FloatKind.f32.format.order x 0 = some Ordering.gt := by
  rcases hy with rfl | hy
  · exact h
  · have h' : (single.read x).order (single.read y) = some Ordering.gt := h
    refine read_pos ?_
    rcases pos_read hy with e | ⟨n, j, e, hn⟩
    · rw [e] at h'
      cases hx : single.read x with
      | nan s f => rw [hx] at h'; cases h'
      | infinity s => rw [hx] at h'; cases s <;> cases h'
      | number s m i => rw [hx] at h'; cases h'
    · rw [e] at h'
      cases hx : single.read x with
      | nan s f => rw [hx] at h'; cases h'
      | infinity s => rw [hx] at h'; cases s; · exact .inl rfl
                      · cases h'
      | number s m i =>
        rw [hx] at h'
        have h2 : compare (signed s m (i - min i j).toNat) (signed false n (j - min i j).toNat) = Ordering.gt := Option.some.inj h'
        have h3 : signed false n (j - min i j).toNat < signed s m (i - min i j).toNat := by
          simp only [compare, compareOfLessAndEq] at h2
          split at h2
          · cases h2
          · split at h2
            · cases h2
            · omega
        have h4 := sf_nn n (j - min i j).toNat
        obtain ⟨rfl, hm⟩ := s_pos (show 0 < signed s m (i - min i j).toNat by omega)
        exact .inr ⟨m, i, rfl, hm⟩
theorem bsTo_is (G : Gd) (c : Nat) : ∀ n, bsTo G c n = (none, some 0) ∨ ∃ s r, s < n ∧ bsTo G c n = (some s, some r) ∧ flowS G c (s : Int) = some r ∧ FloatKind.f32.format.order r 0 = some Ordering.gt
  | 0 => .inl rfl
  | n + 1 => by
    have ih := bsTo_is G c n
    unfold bsTo
    split
    · rename_i h
      refine .inr ?_
      have h1 : ordO (flowS G c (n : Int)) (bsTo G c n).2 = some Ordering.gt := by simpa [gtO] using h
      cases hf : flowS G c (n : Int) with
      | none => rw [hf] at h1; cases h1
      | some r =>
        refine ⟨n, r, by omega, rfl, hf, ?_⟩
        rw [hf] at h1
        rcases ih with e | ⟨s, q, _, e, _, e2⟩
        · rw [e] at h1; exact h1
        · rw [e] at h1; exact gt_pos h1 (.inr e2)
    · rcases ih with e | ⟨s, q, hs, e, e1, e2⟩
      · exact .inl e
      · exact .inr ⟨s, q, by omega, e, e1, e2⟩
theorem nxtW_down {G : Gd} (hv : validB G = true) {c k : Nat} (hc : c < 64) (hcb : isB G c = true) (h : nxtW G c = some k) : k < 64 ∧ isB G k = true ∧ valW (G.h k) < valW (G.h c) ∧ ∃ s, s < 4 ∧ (bsTo G c 4).1 = some s ∧ nbB G c (s : Int) = true ∧ k = nbN c (s : Int) := by
  unfold nxtW at h
  rcases bsTo_is G c 4 with e | ⟨s, r, hs, e, e1, e2⟩
  · rw [e] at h; cases h
  · rw [e] at h
    cases h
    have hnb : nbB G c (s : Int) = true := by
      cases hb : nbB G c (s : Int)
      · exfalso
        unfold flowS at e1
        rw [hb, if_neg (by decide)] at e1
        have : r = 0 := ((num_eq_some e1).1).symm
        rw [this] at e2
        exact absurd e2 (by decide)
      · rfl
    obtain ⟨_, hk⟩ := nbN_is hv hnb
    have hfl : flowO G c (nbN c (s : Int)) = some r := by
      unfold flowS at e1
      rwa [hnb, if_pos rfl] at e1
    have hkb := nb_isB hv hnb
    exact ⟨hk, hkb, val_gt (head_plain hv hc hcb) (head_plain hv hk hkb) (flow_down (head_plain hv hc hcb) (head_plain hv hk hkb) hfl e2), s, hs, by rw [e], hnb, rfl⟩
/-- How many heads are less than a cell's. -/
def rankW (G : Gd) (c : Nat) : Nat := (List.range 64).countP fun j => decide (valW (G.h j) < valW (G.h c))
theorem countP_lt {α : Type} {p q : α → Bool} : ∀ {l : List α} {x : α}, x ∈ l → (∀ y, p y = true → q y = true) → p x = false → q x = true → l.countP p < l.countP q
  | y :: l, x, hx, hpq, hp, hq => by
    rw [List.mem_cons] at hx
    have hle : l.countP p ≤ l.countP q := List.countP_mono_left fun y _ => hpq y
    rcases hx with rfl | hx
    · rw [List.countP_cons_of_neg (by rw [hp]; decide), List.countP_cons_of_pos hq]
      omega
    · have ih := countP_lt hx hpq hp hq
      by_cases hy : p y = true
      · rw [List.countP_cons_of_pos hy, List.countP_cons_of_pos (hpq y hy)]; omega
      · rw [List.countP_cons_of_neg hy]
        by_cases hy2 : q y = true
        · rw [List.countP_cons_of_pos hy2]; omega
        · rw [List.countP_cons_of_neg hy2]; exact ih
theorem rank_down {G : Gd} {c k : Nat} (hk : k < 64) (h : valW (G.h k) < valW (G.h c)) : rankW G k < rankW G c := by
  unfold rankW
  refine countP_lt (x := k) (List.mem_range.2 hk) (fun y hy => ?_) (by simp) (by simpa using h)
  simp only [decide_eq_true_eq] at hy ⊢
  omega
theorem rank_le (G : Gd) (c : Nat) : rankW G c ≤ 64 := by
  unfold rankW
  exact Nat.le_trans List.countP_le_length (by simp)
/-- The way of the water from a cell. -/
def wayN (G : Gd) : Nat → Nat → List Nat
  | 0, _ => []
  | f + 1, c => c :: (match nxtW G c with | none => [] | some k => wayN G f k)
def wayL (G : Gd) (c : Nat) : List Nat := wayN G (rankW G c + 1) c
theorem wayN_more {G : Gd} (hv : validB G = true) : ∀ (f c : Nat), c < 64 → isB G c = true → rankW G c < f → wayN G f c = wayL G c := by
  have key : ∀ (n f g c : Nat), rankW G c ≤ n → c < 64 → isB G c = true → rankW G c < f → rankW G c < g → wayN G f c = wayN G g c := by
    intro n
    induction n with
    | zero =>
      intro f g c hn hc hcb hf hg
      obtain ⟨f', rfl⟩ : ∃ f', f = f' + 1 := ⟨f - 1, by omega⟩
      obtain ⟨g', rfl⟩ : ∃ g', g = g' + 1 := ⟨g - 1, by omega⟩
      simp only [wayN]
      cases hk : nxtW G c with
      | none => rfl
      | some k =>
        obtain ⟨h1, hkb, h2, _⟩ := nxtW_down hv hc hcb hk
        have := rank_down h1 h2
        omega
    | succ n ih =>
      intro f g c hn hc hcb hf hg
      obtain ⟨f', rfl⟩ : ∃ f', f = f' + 1 := ⟨f - 1, by omega⟩
      obtain ⟨g', rfl⟩ : ∃ g', g = g' + 1 := ⟨g - 1, by omega⟩
      simp only [wayN]
      cases hk : nxtW G c with
      | none => rfl
      | some k =>
        obtain ⟨h1, hkb, h2, _⟩ := nxtW_down hv hc hcb hk
        have := rank_down h1 h2
        simp only
        rw [ih f' g' k (by omega) h1 hkb (by omega) (by omega)]
  intro f c hc hcb hf
  exact key _ f _ c (Nat.le_refl _) hc hcb hf (Nat.lt_succ_self _)
theorem wayL_end {G : Gd} {c : Nat} (h : nxtW G c = none) : wayL G c = [c] := by
  unfold wayL wayN
  rw [h]
theorem wayL_on {G : Gd} (hv : validB G = true) {c k : Nat} (hc : c < 64) (hcb : isB G c = true) (h : nxtW G c = some k) : wayL G c = c :: wayL G k := by
  obtain ⟨h1, hkb, h2, _⟩ := nxtW_down hv hc hcb h
  have h3 := rank_down h1 h2
  show wayN G (rankW G c + 1) c = _
  unfold wayN
  rw [h]
  simp only
  rw [wayN_more hv (rankW G c) k h1 hkb h3]
end Go.Proofs.YtjhaonfdapldcaaDoor
