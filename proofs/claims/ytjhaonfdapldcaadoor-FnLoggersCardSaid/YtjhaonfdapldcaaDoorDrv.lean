/- What is drawn is a valid ground, and all its flows are finite. No condition; no program. -/
import Derived.Test.YtjhaonfdapldcaaDoorGd
import Derived.Test.YtjhaonfdapldcaaDoorQuo
namespace Go.Proofs.YtjhaonfdapldcaaDoor
open Go Go.RowKit Ieee
set_option linter.unusedSimpArgs false
set_option linter.unusedVariables false

theorem read_anyM {b : Nat} (h : b % 2147483648 < 2139095040) : ∃ s m i, single.read b = .number s m i ∧ -149 ≤ i ∧ m * 2 ^ (i + 149).toNat = val32 (b % 2147483648) := by
  unfold Format.read val32
  simp only [sw32, bin32, inf32, lp32]
  generalize b % 2147483648 = r at *
  by_cases hb : r < 8388608
  · simp only [if_pos hb]
    exact ⟨_, r, -149, rfl, by omega, by simp⟩
  · simp only [if_neg hb, if_pos h]
    exact ⟨_, 8388608 + r % 8388608, _, rfl, by omega, by congr 2; omega⟩
theorem near_bd (s : Bool) (m : Nat) (p B : Int) (K Wd : Nat) (hB : B ≤ p) (hB2 : B ≤ -149) (hK : rungN single 1 (K : Int) = Wd) (hW : Wd < 2139095040) (h : m * 2 ^ (p - B).toNat ≤ 2 ^ ((K : Int) - B).toNat) : single.nearest s m p % 2147483648 ≤ Wd ∧ single.nearest s m p < 4294967296 := by
  by_cases hm : m = 0
  · unfold Format.nearest
    rw [if_pos hm]
    unfold Format.word
    rw [sw32]
    split <;> omega
  · have := rungN_mono single (m1 := m) (m2 := 1) (p1 := p) (p2 := K) (B := B) hm (by decide) hB (by omega) (by rw [lp32]; exact hB2) (by rw [Nat.one_mul]; exact h)
    rw [hK] at this
    rw [nearest_is single s hm, inf32]
    unfold Format.word
    rw [sw32]
    generalize rungN single m p = z at *
    split <;> omega
theorem natAbs_signed (s : Bool) (m k : Nat) : (signed s m k).natAbs = m * 2 ^ k := by
  unfold signed
  rw [Nat.shiftLeft_eq]
  split
  · rw [Int.natAbs_neg, Int.natAbs_natCast]
  · rw [Int.natAbs_natCast]
theorem rung21 : rungN single 1 ((21 : Nat) : Int) = 1241513984 := by decide
theorem rung24 : rungN single 1 ((24 : Nat) : Int) = 1266679808 := by decide
theorem v20 : val32 1233125376 = 2 ^ 169 := by decide
theorem v21 : val32 1241513984 = 2 ^ 170 := by decide
theorem v3 : val32 1077936128 ≤ 2 ^ 151 := by decide
/-- The difference of two numbers that are not great. -/
theorem sub_bd {x y : Nat} (hx : x % 2147483648 ≤ 1233125376) (hy : y % 2147483648 ≤ 1233125376) : ∃ r, single.sub x y = some r ∧ r % 2147483648 ≤ 1241513984 ∧ r < 4294967296 := by
  obtain ⟨s, m, i, hr, hi, hv⟩ := read_anyM (b := x) (by omega)
  obtain ⟨t, n, j, hs, hj, hu⟩ := read_anyM (b := y) (by omega)
  have h1 := val32_mono hx
  have h2 := val32_mono hy
  rw [← hv, v20] at h1
  rw [← hu, v20] at h2
  unfold Format.sub
  rw [hr, hs]
  simp only [Datum.opposite, Datum.sum, Option.map_some]
  refine ⟨_, rfl, ?_⟩
  simp only [Format.write]
  refine near_bd _ _ _ (-149) 21 _ (by omega) (by omega) rung21 (by decide) ?_
  have ha : (signed s m (i - min i j).toNat + signed (!t) n (j - min i j).toNat).natAbs ≤ m * 2 ^ (i - min i j).toNat + n * 2 ^ (j - min i j).toNat := by
    have := Int.natAbs_add_le (signed s m (i - min i j).toNat) (signed (!t) n (j - min i j).toNat)
    rw [natAbs_signed, natAbs_signed] at this
    exact this
  refine Nat.le_trans (Nat.mul_le_mul_right _ ha) ?_
  rw [Nat.add_mul, Nat.mul_assoc, Nat.mul_assoc, ← Nat.pow_add, ← Nat.pow_add, show (i - min i j).toNat + (min i j - (-149)).toNat = (i + 149).toNat by omega, show (j - min i j).toNat + (min i j - (-149)).toNat = (j + 149).toNat by omega, show (((21 : Nat) : Int) - (-149)).toNat = 170 by decide]
  have : (2 : Nat) ^ 170 = 2 ^ 169 + 2 ^ 169 := by decide
  rw [this]
  exact Nat.add_le_add h1 h2
/-- The product of a number that is not great with one that is small. -/
theorem mul_bd {x y : Nat} (hx : x % 2147483648 ≤ 1077936128) (hy : y % 2147483648 ≤ 1241513984) : ∃ r, single.mul x y = some r ∧ r % 2147483648 ≤ 1266679808 ∧ r < 4294967296 := by
  obtain ⟨s, m, i, hr, hi, hv⟩ := read_anyM (b := x) (by omega)
  obtain ⟨t, n, j, hs, hj, hu⟩ := read_anyM (b := y) (by omega)
  have h1 := Nat.le_trans (val32_mono hx) v3
  have h2 := val32_mono hy
  rw [← hv] at h1
  rw [← hu, v21] at h2
  unfold Format.mul
  rw [hr, hs]
  simp only [Datum.product, Option.map_some]
  refine ⟨_, rfl, ?_⟩
  simp only [Format.write]
  refine near_bd _ _ _ (-298) 24 _ (by omega) (by omega) rung24 (by decide) ?_
  have e : m * n * 2 ^ (i + j - (-298)).toNat = (m * 2 ^ (i + 149).toNat) * (n * 2 ^ (j + 149).toNat) := by
    rw [show (i + j - (-298)).toNat = (i + 149).toNat + (j + 149).toNat by omega, Nat.pow_add]
    simp only [Nat.mul_comm, Nat.mul_left_comm, Nat.mul_assoc]
  obtain ⟨A, hA⟩ : ∃ A : Nat, A = 151 := ⟨_, rfl⟩
  obtain ⟨B, hB⟩ : ∃ B : Nat, B = 171 := ⟨_, rfl⟩
  have e3 : (((24 : Nat) : Int) - (-298)).toNat = A + B := by omega
  rw [e, e3, Nat.pow_add]
  exact Nat.mul_le_mul (Nat.le_trans h1 (Nat.pow_le_pow_right (by decide) (by omega))) (Nat.le_trans h2 (Nat.pow_le_pow_right (by decide) (by omega)))
theorem fin_of {r : Nat} (h : r % 2147483648 < 2139095040) : finB r = true := by
  obtain ⟨s, m, i, hr, _⟩ := read_anyM h
  unfold finB
  rw [hr]
theorem jt_ok : ∀ i, i < 12 → ∀ j, j < 12 → joint (conT i) (conT j) = some ((joint (conT i) (conT j)).getD 0) ∧ (joint (conT i) (conT j)).getD 0 ≤ 1077936128 := by decide +kernel
theorem pos_zero : pos 0 = false := by decide +kernel
theorem num_zero : num .f32 0 = some 0 := num_some (by decide +kernel)
theorem joint_bd {a b : Nat} (ha : conOk a) (hb : conOk b) : ∃ r, joint a b = some r ∧ r ≤ 1077936128 := by
  rcases ha with rfl | ⟨i, hi, rfl⟩
  · unfold joint; rw [pos_zero]; exact ⟨0, num_zero, by omega⟩
  · rcases hb with rfl | ⟨j, hj, rfl⟩
    · unfold joint; rw [pos_zero, Bool.and_false]; exact ⟨0, num_zero, by omega⟩
    · exact ⟨_, jt_ok i hi j hj⟩
theorem hed_plain : ∀ i, i < 65 → plainB (hedT i) = true ∧ hedT i % 2147483648 ≤ 1233125376 ∧ nanK .f32 (hedT i) = false := by decide +kernel
theorem few_plain : ∀ i, i < 65 → plainB (fewT i) = true := by decide +kernel
theorem con_plain : ∀ i, i < 12 → plainB (conT i) = true ∧ negB (conT i) = false := by decide +kernel
theorem zero_plain : plainB 0 = true ∧ negB 0 = false ∧ zeroB 0 = true := by decide +kernel
theorem flow_bd {G : Gd} {i j : Nat} (ci : conOk (G.c i)) (cj : conOk (G.c j)) (hi : hedOk (G.h i)) (hj : hedOk (G.h j)) : ∃ r, flowO G i j = some r ∧ finB r = true ∧ r < 4294967296 := by
  obtain ⟨q, hq, hql⟩ := joint_bd ci cj
  obtain ⟨a, ha, ea⟩ := hi
  obtain ⟨b, hb, eb⟩ := hj
  obtain ⟨_, pa, na⟩ := hed_plain a ha
  obtain ⟨_, pb, nb⟩ := hed_plain b hb
  obtain ⟨d, hd, hdl, _⟩ := sub_bd pa pb
  obtain ⟨r, hr, hrl, hr4⟩ := mul_bd (x := q) (y := d) (by omega) hdl
  refine ⟨r, ?_, fin_of (by omega), hr4⟩
  unfold flowO
  rw [show jointG G i j = some q from hq, ea, eb, num_some na, num_some nb]
  show (floatBits .sub .f32 (hedT a) (hedT b)).bind (fun z => floatBits .mul .f32 q z) = some r
  rw [show floatBits .sub .f32 (hedT a) (hedT b) = some d from hd]
  exact hr
theorem Drw.cells {G : Gd} (h : Drw G) {i : Nat} (hi : i < 64) (hb : isB G i = true) : conOk (G.c i) ∧ fewOk (G.g i) ∧ hedOk (G.h i) := by
  obtain ⟨a, b, L, _, _, d, _⟩ := h
  exact ⟨d.c i hi hb, d.g i hi hb, d.h i hi hb⟩
theorem Drw.ok {G : Gd} (h : Drw G) : GdOk G := by
  obtain ⟨a, b, L, ha, hb, d, _⟩ := h
  exact d.ok ha hb
theorem Drw.valid {G : Gd} (h : Drw G) : validB G = true := by
  have H := h
  obtain ⟨a, b, L, ha, hb, d, hL⟩ := h
  have w := d.wide
  have hh := d.high
  have hext : extB G = true := by unfold extB; simp; omega
  have hf : ∀ f : Nat → Nat, (∀ i, i < 64 → isB G i = true → plainB (f i) = true) → (∀ i, isB G i = false → f i = 0) → fieldB G f = true := by
    intro f h1 h2
    unfold fieldB
    refine all_yes fun i hi => ?_
    unfold okAt
    cases hb : isB G i
    · rw [h2 i hb]; exact zero_plain.2.2
    · exact h1 i hi hb
  have hc := hf G.c (fun i hi hb => by
    rcases (H.cells hi hb).1 with e | ⟨n, hn, e⟩
    · rw [e]; exact zero_plain.1
    · rw [e]; exact (con_plain n hn).1) (fun i hb => (d.no i (.inr hb)).1)
  have hg := hf G.g (fun i hi hb => by
    rcases (H.cells hi hb).2.1 with e | ⟨n, hn, e⟩
    · rw [e]; exact zero_plain.1
    · rw [e]; exact few_plain n hn) (fun i hb => (d.no i (.inr hb)).2.1)
  have hd := hf G.h (fun i hi hb => by
    obtain ⟨n, hn, e⟩ := (H.cells hi hb).2.2
    rw [e]; exact (hed_plain n hn).1) (fun i hb => (d.no i (.inr hb)).2.2)
  have hn : noNeg G = true := by
    unfold noNeg
    refine all_yes fun i hi => ?_
    cases hb : isB G i
    · rw [(d.no i (.inr hb)).1, zero_plain.2.1]; rfl
    · rcases (H.cells hi hb).1 with e | ⟨n, hn, e⟩
      · rw [e, zero_plain.2.1]; rfl
      · rw [e, (con_plain n hn).2]; rfl
  have hx : (G.x != 0) = true := by
    have := maskL_ne hL
    rw [d.x]
    simp
    omega
  have hfx : fixB G = true := by
    unfold fixB
    have hlt := maskL_lt (l := L) fun j hj => (d.l j hj).2.1
    obtain ⟨n, e, hn, hbit⟩ := bits_andNot (maskL L) (cellsN G) hlt (cellsN_lt G)
    rw [d.x, e]
    have : n = 0 := by
      refine Nat.eq_of_testBit_eq fun i => ?_
      rw [Nat.zero_testBit]
      by_cases hi : i < 64
      · rw [hbit i hi, maskL_bit, cellsN_testBit]
        by_cases hm : i ∈ L
        · have := d.l i hm
          simp [hm, hi, this.2.2]
        · simp [hm]
      · refine Nat.testBit_lt_two_pow (Nat.lt_of_lt_of_le hn ?_)
        exact Nat.pow_le_pow_right (n := 2) (by decide) (show 64 ≤ i by omega)
    rw [this]; rfl
  unfold validB
  rw [hext, hc, hg, hd, hn, hx, hfx]
  rfl
theorem Drw.flows {G : Gd} (h : Drw G) {k : Nat} (hk : k < 64) (hb : isB G k = true) (s : Int) : ∃ r, flowS G k s = some r ∧ finB r = true ∧ r < 4294967296 := by
  unfold flowS
  split
  · rename_i hn
    have h1 := (nbN_is h.valid hn).2
    have h2 := nb_isB h.valid hn
    exact flow_bd (h.cells hk hb).1 (h.cells h1 h2).1 (h.cells hk hb).2.2 (h.cells h1 h2).2.2
  · exact ⟨0, num_zero, by decide +kernel, by decide⟩
theorem Drw.okW {G : Gd} (h : Drw G) {k : Nat} (hk : k < 64) (hb : isB G k = true) : okW G k = true := by
  refine okW_yes fun s hs => ?_
  obtain ⟨r, hr, hf, _⟩ := h.flows hk hb (s : Int)
  rw [hr]; exact hf
end Go.Proofs.YtjhaonfdapldcaaDoor
