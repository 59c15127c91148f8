/- Positive normal numbers: halved, doubled, multiplied, divided, their order. No condition. -/
import Derived.Test.YtdhgehmnjoclaaaBase
namespace Go.Proofs.Ytdhgehmnjoclaaa
open Go Go.RowKit Ieee
set_option linter.unusedSimpArgs false
set_option linter.unusedVariables false

theorem sg1 : single.signWeight = 2147483648 := by decide +kernel
theorem sg2 : single.infRung = 2139095040 := by decide +kernel
theorem sg3 : single.binade = 8388608 := by decide +kernel
theorem sg4 : single.leastPlace = -149 := by decide +kernel
theorem sg5 : single.fractionBits = 23 := rfl
/-- A positive normal number, read. -/
theorem norm_read {b : Nat} (h1 : 8388608 ≤ b) (h2 : b < 2139095040) : single.read b = .number false (8388608 + b % 8388608) (-149 + ((b / 8388608 - 1 : Nat) : Int)) := by
  have hm : b % 2147483648 = b := Nat.mod_eq_of_lt (by omega)
  have hd : b / 2147483648 = 0 := Nat.div_eq_of_lt (by omega)
  unfold Format.read
  simp only [sg1, sg2, sg3, sg4, hm, hd]
  rw [if_neg (by omega), if_pos h2]
  rfl
theorem two_read : single.read 1073741824 = .number false 8388608 (-22) := by decide +kernel
theorem log2_norm (r : Nat) (h : r < 8388608) (k : Nat) : ((8388608 + r) * 2 ^ k).log2 = 23 + k := by
  rw [Nat.log2_eq_iff (by have := Nat.two_pow_pos k; have : 0 < (8388608 + r) * 2 ^ k := Nat.mul_pos (by omega) this; omega)]
  rw [Nat.pow_add, Nat.pow_add, Nat.pow_add]
  have h0 := Nat.two_pow_pos k
  constructor
  · exact Nat.mul_le_mul_right _ (by omega)
  · have : (8388608 + r) * 2 ^ k < 2 ^ 24 * 2 ^ k := Nat.mul_lt_mul_of_pos_right (by omega) h0
    omega
/-- A normal number whose significand is whole again is its own nearest word. -/
theorem nearest_norm (r e k : Nat) (h : r < 8388608) (he : e < 254) : single.nearest false ((8388608 + r) * 2 ^ k) (-149 + (e : Int) - k) = (e + 1) * 8388608 + r := by
  unfold Format.nearest
  have h0 := Nat.two_pow_pos k
  have hp : 0 < (8388608 + r) * 2 ^ k := Nat.mul_pos (by omega) h0
  rw [if_neg (by omega), log2_norm r h k]
  simp only [sg2, sg3, sg4, sg5]
  have hl : max (-149 + (e : Int) - (k : Int) + ((23 + k : Nat) : Int) - ((23 : Nat) : Int)) (-149) = -149 + (e : Int) := by omega
  rw [hl]
  have e1 : (-149 + (e : Int) - (k : Int) - (-149 + (e : Int))).toNat = 0 := by omega
  have e2 : (-149 + (e : Int) - (-149 + (e : Int) - (k : Int))).toNat = k := by omega
  have e3 : (-149 + (e : Int) - -149).toNat = e := by omega
  rw [e1, e2, e3, Nat.shiftLeft_zero]
  have hc : Toward.even.cut false ((8388608 + r) * 2 ^ k) k = 8388608 + r := by
    unfold Toward.cut
    simp only []
    rw [log2_norm r h k, Nat.min_eq_left (by omega), Nat.shiftLeft_eq, Nat.one_mul, Nat.mul_div_cancel _ h0, Nat.mul_mod_left]
    have g1 : decide (2 ^ k < 2 * 0) = false := by simp
    have g2 : (2 ^ k == 2 * 0) = false := by simp
    rw [g1, g2]
    simp
  rw [hc, Nat.min_eq_left (by omega)]
  show e * 8388608 + (8388608 + r) = _
  omega
/-- A positive normal number that is halved. -/
theorem half_div {b : Nat} (h1 : 16777216 ≤ b) (h2 : b < 2139095040) : single.div b 1073741824 = some (b - 8388608) := by
  unfold Format.div
  rw [norm_read (by omega) h2, two_read]
  obtain ⟨r, hr⟩ : ∃ r, b % 8388608 = r := ⟨_, rfl⟩
  obtain ⟨q, hq⟩ : ∃ q, b / 8388608 = q := ⟨_, rfl⟩
  have hr2 : r < 8388608 := by omega
  have hq2 : 2 ≤ q ∧ q < 255 := by omega
  rw [hr, hq]
  have l1 : (8388608 + r).log2 = 23 := by have := log2_norm r hr2 0; simpa using this
  have l2 : (8388608 : Nat).log2 = 23 := by decide +kernel
  have hd : (8388608 + r) <<< (23 + 2 + 23 - 23) / 8388608 = (8388608 + r) * 4 := by
    rw [Nat.shiftLeft_eq, show (2 : Nat) ^ (23 + 2 + 23 - 23) = 4 * 8388608 by decide +kernel, ← Nat.mul_assoc, Nat.mul_div_cancel _ (by omega)]
  have hm : (8388608 + r) <<< (23 + 2 + 23 - 23) % 8388608 = 0 := by
    rw [Nat.shiftLeft_eq, show (2 : Nat) ^ (23 + 2 + 23 - 23) = 4 * 8388608 by decide +kernel, ← Nat.mul_assoc, Nat.mul_mod_left]
  have e1 : 2 * ((8388608 + r) * 4) + ((0 : Nat) != 0).toNat = (8388608 + r) * 2 ^ 3 := by simp; omega
  have e2 : -149 + ((q - 1 : Nat) : Int) - -22 - ((23 + 2 + 23 - 23 : Nat) : Int) - 1 = -149 + ((q - 2 : Nat) : Int) - ((3 : Nat) : Int) := by omega
  have key : (Datum.number false (8388608 + r) (-149 + ((q - 1 : Nat) : Int))).quotient (single.fractionBits + 2) (.number false 8388608 (-22)) = some (.number false ((8388608 + r) * 2 ^ 3) (-149 + ((q - 2 : Nat) : Int) - ((3 : Nat) : Int))) := by
    unfold Datum.quotient
    simp only [sg5, l1, l2, hd, hm, e1, e2, Bool.xor_false]
    rw [if_neg (by decide)]
  rw [key]
  show some (single.nearest false _ _) = _
  rw [nearest_norm r (q - 2) 3 hr2 (by omega)]
  exact congrArg some (by omega)
/-- A positive normal number that is doubled. -/
theorem twice_mul {b : Nat} (h1 : 8388608 ≤ b) (h2 : b < 2130706432) : single.mul b 1073741824 = some (b + 8388608) := by
  unfold Format.mul
  rw [norm_read h1 (by omega), two_read]
  obtain ⟨r, hr⟩ : ∃ r, b % 8388608 = r := ⟨_, rfl⟩
  obtain ⟨q, hq⟩ : ∃ q, b / 8388608 = q := ⟨_, rfl⟩
  have hr2 : r < 8388608 := by omega
  have hq2 : 1 ≤ q ∧ q < 254 := by omega
  rw [hr, hq]
  show some (single.nearest (false ^^ false) _ _) = _
  have e3 : (q + 1) * 8388608 + r = b + 8388608 := by omega
  have e1 : (8388608 + r) * 8388608 = (8388608 + r) * 2 ^ 23 := by rw [show (2 : Nat) ^ 23 = 8388608 by decide +kernel]
  have e2 : -149 + ((q - 1 : Nat) : Int) + -22 = -149 + ((q : Nat) : Int) - ((23 : Nat) : Int) := by omega
  rw [e1, e2]
  have := nearest_norm r q 23 hr2 (by omega)
  exact congrArg some (this.trans e3)
/-- The order of positive finite numbers is that of their bits. -/
theorem pos_order {a b : Nat} (h1 : 8388608 ≤ a) (h2 : a < 2139095040) (h3 : 8388608 ≤ b) (h4 : b < 2139095040) : single.order a b = some (compare a b) := by
  unfold Format.order
  rw [norm_read h1 h2, norm_read h3 h4]
  unfold Datum.order
  simp only []
  obtain ⟨r, hr⟩ : ∃ r, a % 8388608 = r := ⟨_, rfl⟩
  obtain ⟨q, hq⟩ : ∃ q, a / 8388608 = q := ⟨_, rfl⟩
  obtain ⟨s, hs⟩ : ∃ s, b % 8388608 = s := ⟨_, rfl⟩
  obtain ⟨p, hp⟩ : ∃ p, b / 8388608 = p := ⟨_, rfl⟩
  rw [hr, hq, hs, hp]
  have g1 : r < 8388608 := by omega
  have g2 : s < 8388608 := by omega
  have ea : a = q * 8388608 + r := by omega
  have eb : b = p * 8388608 + s := by omega
  have hq1 : 1 ≤ q := by omega
  have hp1 : 1 ≤ p := by omega
  unfold signed
  simp only [Bool.false_eq_true, if_false, Nat.shiftLeft_eq]
  congr 1
  have key : ∀ (u v : Nat), u ≥ 8388608 → u < 16777216 → v ≥ 8388608 → v < 16777216 → ∀ k : Nat, 1 ≤ k → v < u * 2 ^ k := by
    intro u v h1 h2 h3 h4 k hk
    have : u * 2 ^ 1 ≤ u * 2 ^ k := Nat.mul_le_mul_left _ (Nat.pow_le_pow_right (by omega) hk)
    omega
  rcases Nat.lt_trichotomy q p with h | h | h
  · have m1 : (-149 + ((q - 1 : Nat) : Int) - min (-149 + ((q - 1 : Nat) : Int)) (-149 + ((p - 1 : Nat) : Int))).toNat = 0 := by omega
    have m2 : (-149 + ((p - 1 : Nat) : Int) - min (-149 + ((q - 1 : Nat) : Int)) (-149 + ((p - 1 : Nat) : Int))).toNat = p - q := by omega
    rw [m1, m2]
    have := key (8388608 + s) (8388608 + r) (by omega) (by omega) (by omega) (by omega) (p - q) (by omega)
    have c1 : compare ((((8388608 + r) * 2 ^ 0 : Nat)) : Int) ((((8388608 + s) * 2 ^ (p - q) : Nat)) : Int) = .lt := by
      simp only [compare, compareOfLessAndEq]
      rw [if_pos (by omega)]
    have c2 : compare a b = .lt := by
      simp only [compare, compareOfLessAndEq]
      rw [if_pos (by omega)]
    rw [c1, c2]
  · subst h
    have m1 : (-149 + ((q - 1 : Nat) : Int) - min (-149 + ((q - 1 : Nat) : Int)) (-149 + ((q - 1 : Nat) : Int))).toNat = 0 := by omega
    rw [m1]
    simp only [compare, compareOfLessAndEq, Nat.pow_zero, Nat.mul_one]
    by_cases c : r < s
    · rw [if_pos (by omega), if_pos (by omega)]
    · by_cases c2 : r = s
      · subst c2
        rw [if_neg (by omega), if_pos rfl, if_neg (by omega), if_pos (by omega)]
      · rw [if_neg (by omega), if_neg (by omega), if_neg (by omega), if_neg (by omega)]
  · have m1 : (-149 + ((q - 1 : Nat) : Int) - min (-149 + ((q - 1 : Nat) : Int)) (-149 + ((p - 1 : Nat) : Int))).toNat = q - p := by omega
    have m2 : (-149 + ((p - 1 : Nat) : Int) - min (-149 + ((q - 1 : Nat) : Int)) (-149 + ((p - 1 : Nat) : Int))).toNat = 0 := by omega
    rw [m1, m2]
    have := key (8388608 + r) (8388608 + s) (by omega) (by omega) (by omega) (by omega) (q - p) (by omega)
    have c1 : compare ((((8388608 + r) * 2 ^ (q - p) : Nat)) : Int) ((((8388608 + s) * 2 ^ 0 : Nat)) : Int) = .gt := by
      simp only [compare, compareOfLessAndEq]
      rw [if_neg (by omega), if_neg (by omega)]
    have c2 : compare a b = .gt := by
      simp only [compare, compareOfLessAndEq]
      rw [if_neg (by omega), if_neg (by omega)]
    rw [c1, c2]
theorem fin_min (X Y Z K : Nat) (h1 : 8388608 ≤ K) (h2 : K ≤ 16777216) (h3 : X + 1 = Y) (h4 : Z = Y + 1) (h5 : X ≤ 253) : Y * 8388608 ≤ min (X * 8388608 + K) 2139095040 ∧ min (X * 8388608 + K) 2139095040 ≤ Z * 8388608 := by
  constructor
  · refine Nat.le_min.2 ⟨?_, ?_⟩ <;> omega
  · refine Nat.le_trans (Nat.min_le_left _ _) ?_
    omega
theorem word_pos (r : Nat) : single.word false r = r := rfl
/-- What is nearest to a number that is not too small or great: between two powers of 2. -/
theorem near_norm (mag : Nat) (place : Int) (h0 : mag ≠ 0) (h1 : -126 ≤ place + (mag.log2 : Int)) (h2 : place + (mag.log2 : Int) ≤ 125) :
    (place + (mag.log2 : Int) + 127).toNat * 8388608 ≤ single.nearest false mag place ∧ single.nearest false mag place ≤ (place + (mag.log2 : Int) + 128).toNat * 8388608 := by
  unfold Format.nearest
  rw [if_neg h0]
  simp only [sg2, sg3, sg4, sg5]
  obtain ⟨l, hl⟩ : ∃ l, mag.log2 = l := ⟨_, rfl⟩
  have g1 : 2 ^ l ≤ mag := by rw [← hl]; exact Nat.log2_self_le h0
  have g2 : mag < 2 ^ (l + 1) := by rw [← hl]; exact Nat.lt_log2_self
  rw [hl] at h1 h2 ⊢
  have hm : max (place + (l : Int) - ((23 : Nat) : Int)) (-149) = place + (l : Int) - 23 := by omega
  rw [hm]
  have kept : 8388608 ≤ Toward.even.cut false (mag <<< (place - (place + (l : Int) - 23)).toNat) (place + (l : Int) - 23 - place).toNat ∧ Toward.even.cut false (mag <<< (place - (place + (l : Int) - 23)).toNat) (place + (l : Int) - 23 - place).toNat ≤ 16777216 := by
    by_cases hc : l ≤ 23
    · have e : (place + (l : Int) - 23 - place).toNat = 0 := by omega
      have e2 : (place - (place + (l : Int) - 23)).toNat = 23 - l := by omega
      rw [e, e2, cut_none, Nat.shiftLeft_eq]
      have a1 : 2 ^ l * 2 ^ (23 - l) ≤ mag * 2 ^ (23 - l) := Nat.mul_le_mul_right _ g1
      have a2 : mag * 2 ^ (23 - l) < 2 ^ (l + 1) * 2 ^ (23 - l) := Nat.mul_lt_mul_of_pos_right g2 (Nat.two_pow_pos _)
      rw [← Nat.pow_add] at a1 a2
      rw [show l + (23 - l) = 23 by omega] at a1
      rw [show l + 1 + (23 - l) = 24 by omega] at a2
      omega
    · have e : (place + (l : Int) - 23 - place).toNat = l - 23 := by omega
      have e2 : (place - (place + (l : Int) - 23)).toNat = 0 := by omega
      rw [e, e2, Nat.shiftLeft_zero]
      have hq : 8388608 ≤ mag / 2 ^ (l - 23) ∧ mag / 2 ^ (l - 23) < 16777216 := by
        constructor
        · rw [Nat.le_div_iff_mul_le (Nat.two_pow_pos _)]
          have : (8388608 : Nat) * 2 ^ (l - 23) = 2 ^ l := by
            rw [show (8388608 : Nat) = 2 ^ 23 by decide +kernel, ← Nat.pow_add]
            congr 1
            omega
          omega
        · rw [Nat.div_lt_iff_lt_mul (Nat.two_pow_pos _)]
          have : (16777216 : Nat) * 2 ^ (l - 23) = 2 ^ (l + 1) := by
            rw [show (16777216 : Nat) = 2 ^ 24 by decide +kernel, ← Nat.pow_add]
            congr 1
            omega
          omega
      unfold Toward.cut
      simp only []
      rw [hl, Nat.min_eq_left (by omega), Nat.shiftLeft_eq, Nat.one_mul]
      have : ∀ b : Bool, b.toNat ≤ 1 := fun b => by cases b <;> simp
      have := this (decide (2 ^ (l - 23) < 2 * (mag % 2 ^ (l - 23))) || 2 ^ (l - 23) == 2 * (mag % 2 ^ (l - 23)) && mag / 2 ^ (l - 23) % 2 == 1)
      omega
  generalize Toward.even.cut false (mag <<< (place - (place + (l : Int) - 23)).toNat) (place + (l : Int) - 23 - place).toNat = K at kept
  obtain ⟨X, hX⟩ : ∃ X : Nat, (place + (l : Int) - 23 - -149).toNat = X := ⟨_, rfl⟩
  obtain ⟨Y, hY⟩ : ∃ Y : Nat, (place + (l : Int) + 127).toNat = Y := ⟨_, rfl⟩
  obtain ⟨Z, hZ⟩ : ∃ Z : Nat, (place + (l : Int) + 128).toNat = Z := ⟨_, rfl⟩
  rw [hX, hY, hZ]
  rw [word_pos]
  exact fin_min X Y Z K kept.1 kept.2 (by clear kept hm; omega) (by clear kept hm; omega) (by clear kept hm; omega)
theorem log2_of {m k : Nat} (h1 : 2 ^ k ≤ m) (h2 : m < 2 ^ (k + 1)) : m.log2 = k := (Nat.log2_eq_iff (by have := Nat.two_pow_pos k; omega)).2 ⟨h1, h2⟩
theorem write_num (m : Nat) (p : Int) : (some (Datum.number false m p)).map single.write = some (single.nearest false m p) := rfl
theorem mul_num (r s : Nat) (i j : Int) : ((Datum.number false r i).product (.number false s j)).map single.write = some (single.nearest false (r * s) (i + j)) := rfl
/-- The product of two normal numbers that are not too small or great. -/
theorem mul_norm {a b p q : Nat} (ha : p * 8388608 ≤ a ∧ a < (p + 1) * 8388608) (hb : q * 8388608 ≤ b ∧ b < (q + 1) * 8388608) (h1 : 1 ≤ p ∧ p < 255) (h2 : 1 ≤ q ∧ q < 255) (h3 : 128 ≤ p + q) (h4 : p + q ≤ 378) :
    ∃ c, single.mul a b = some c ∧ (p + q - 127) * 8388608 ≤ c ∧ c ≤ (p + q - 125) * 8388608 := by
  unfold Format.mul
  rw [norm_read (by omega) (by omega), norm_read (by omega) (by omega)]
  obtain ⟨r, hr⟩ : ∃ r, a % 8388608 = r := ⟨_, rfl⟩
  obtain ⟨s, hs⟩ : ∃ s, b % 8388608 = s := ⟨_, rfl⟩
  have e1 : a / 8388608 = p := by omega
  have e2 : b / 8388608 = q := by omega
  rw [hr, hs, e1, e2]
  have hr2 : r < 8388608 := by omega
  have hs2 : s < 8388608 := by omega
  rw [mul_num]
  refine ⟨_, rfl, ?_⟩
  clear ha hb hr hs e1 e2
  have lo : 8388608 * 8388608 ≤ (8388608 + r) * (8388608 + s) := Nat.mul_le_mul (by omega) (by omega)
  have hi : (8388608 + r) * (8388608 + s) < 16777216 * 16777216 := Nat.mul_lt_mul_of_lt_of_le (by omega) (by omega) (by omega)
  generalize (8388608 + r) * (8388608 + s) = M at lo hi
  have hl : M.log2 = 46 ∨ M.log2 = 47 := by
    by_cases c : M < 2 ^ 47
    · exact .inl (log2_of (by omega) (by omega))
    · exact .inr (log2_of (by omega) (by omega))
  have hp : -149 + ((p - 1 : Nat) : Int) + (-149 + ((q - 1 : Nat) : Int)) = (p : Int) + (q : Int) - 300 := by omega
  rw [hp]
  have := near_norm M ((p : Int) + (q : Int) - 300) (by omega) (by omega) (by omega)
  have g1 : p + q - 127 ≤ ((p : Int) + (q : Int) - 300 + (M.log2 : Int) + 127).toNat := by omega
  have g2 : ((p : Int) + (q : Int) - 300 + (M.log2 : Int) + 128).toNat ≤ p + q - 125 := by omega
  have g3 := Nat.mul_le_mul_right 8388608 g1
  have g4 := Nat.mul_le_mul_right 8388608 g2
  exact ⟨Nat.le_trans g3 this.1, Nat.le_trans this.2 g4⟩
/-- The quotient of two normal numbers that are not too small or great. -/
theorem div_norm {a b p q : Nat} (ha : p * 8388608 ≤ a ∧ a < (p + 1) * 8388608) (hb : q * 8388608 ≤ b ∧ b < (q + 1) * 8388608) (h1 : 1 ≤ p ∧ p < 255) (h2 : 1 ≤ q ∧ q < 255) (h3 : q ≤ p + 125) (h4 : p ≤ q + 124) :
    ∃ c, single.div a b = some c ∧ (p + 126 - q) * 8388608 ≤ c ∧ c ≤ (p + 128 - q) * 8388608 := by
  unfold Format.div
  rw [norm_read (by omega) (by omega), norm_read (by omega) (by omega)]
  obtain ⟨r, hr⟩ : ∃ r, a % 8388608 = r := ⟨_, rfl⟩
  obtain ⟨s, hs⟩ : ∃ s, b % 8388608 = s := ⟨_, rfl⟩
  have e1 : a / 8388608 = p := by omega
  have e2 : b / 8388608 = q := by omega
  rw [hr, hs, e1, e2]
  have hr2 : r < 8388608 := by omega
  have hs2 : s < 8388608 := by omega
  clear ha hb hr hs e1 e2
  have l1 : (8388608 + r).log2 = 23 := by have := log2_norm r hr2 0; simpa using this
  have l2 : (8388608 + s).log2 = 23 := by have := log2_norm s hs2 0; simpa using this
  have hd : (8388608 + r) <<< (23 + 2 + 23 - 23) = (8388608 + r) * 33554432 := by rw [Nat.shiftLeft_eq, show (2 : Nat) ^ (23 + 2 + 23 - 23) = 33554432 by decide +kernel]
  obtain ⟨D, hD⟩ : ∃ D, (8388608 + r) * 33554432 / (8388608 + s) = D := ⟨_, rfl⟩
  have lo : 16777216 ≤ D := by
    rw [← hD, Nat.le_div_iff_mul_le (by omega)]
    calc 16777216 * (8388608 + s) ≤ 16777216 * 16777216 := Nat.mul_le_mul_left _ (by omega)
      _ = 8388608 * 33554432 := by decide +kernel
      _ ≤ (8388608 + r) * 33554432 := Nat.mul_le_mul_right _ (by omega)
  have hi : D < 67108864 := by
    rw [← hD, Nat.div_lt_iff_lt_mul (by omega)]
    calc (8388608 + r) * 33554432 < 16777216 * 33554432 := Nat.mul_lt_mul_of_pos_right (by omega) (by omega)
      _ = 67108864 * 8388608 := by decide +kernel
      _ ≤ 67108864 * (8388608 + s) := Nat.mul_le_mul_left _ (by omega)
  obtain ⟨t, ht⟩ : ∃ t, ((8388608 + r) * 33554432 % (8388608 + s) != 0).toNat = t := ⟨_, rfl⟩
  have ht2 : t ≤ 1 := by rw [← ht]; cases ((8388608 + r) * 33554432 % (8388608 + s) != 0) <;> simp
  have key : (Datum.number false (8388608 + r) (-149 + ((p - 1 : Nat) : Int))).quotient (single.fractionBits + 2) (.number false (8388608 + s) (-149 + ((q - 1 : Nat) : Int))) = some (.number false (2 * D + t) (-149 + ((p - 1 : Nat) : Int) - (-149 + ((q - 1 : Nat) : Int)) - ((25 : Nat) : Int) - 1)) := by
    unfold Datum.quotient
    simp only [sg5, l1, l2, hd, hD, ht, Bool.xor_false]
    rw [if_neg (by omega)]
  rw [key, write_num]
  clear key hD ht hd
  refine ⟨_, rfl, ?_⟩
  obtain ⟨M, hM⟩ : ∃ M, 2 * D + t = M := ⟨_, rfl⟩
  rw [hM]
  have hl : M.log2 = 25 ∨ M.log2 = 26 := by
    by_cases c : M < 2 ^ 26
    · exact .inl (log2_of (by omega) (by omega))
    · exact .inr (log2_of (by omega) (by omega))
  have hp : -149 + ((p - 1 : Nat) : Int) - (-149 + ((q - 1 : Nat) : Int)) - ((25 : Nat) : Int) - 1 = (p : Int) - (q : Int) - 26 := by omega
  rw [hp]
  have := near_norm M ((p : Int) - (q : Int) - 26) (by omega) (by omega) (by omega)
  have g1 : p + 126 - q ≤ ((p : Int) - (q : Int) - 26 + (M.log2 : Int) + 127).toNat := by omega
  have g2 : ((p : Int) - (q : Int) - 26 + (M.log2 : Int) + 128).toNat ≤ p + 128 - q := by omega
  have g3 := Nat.mul_le_mul_right 8388608 g1
  have g4 := Nat.mul_le_mul_right 8388608 g2
  exact ⟨Nat.le_trans g3 this.1, Nat.le_trans this.2 g4⟩
end Go.Proofs.Ytdhgehmnjoclaaa
