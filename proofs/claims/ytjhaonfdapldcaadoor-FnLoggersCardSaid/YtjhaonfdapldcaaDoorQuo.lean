/- The quotient by a greater number is no greater; the order of words that are not negative is that of the numbers; their sums are not negative. No condition; no program. -/
import Derived.Test.YtjhaonfdapldcaaDoorMon2
namespace Go.Proofs.YtjhaonfdapldcaaDoor
open Go Ieee
set_option linter.unusedSimpArgs false
set_option linter.unusedVariables false

theorem val32_lt {b c : Nat} (h : b < c) : val32 b < val32 c := by
  unfold val32
  have pc := Nat.two_pow_pos (c / 8388608 - 1)
  by_cases hb : b < 8388608
  · rw [if_pos hb]
    by_cases hc : c < 8388608
    · rw [if_pos hc]; exact h
    · rw [if_neg hc]
      have := Nat.mul_le_mul_left (8388608 + c % 8388608) pc
      omega
  · have hc : ¬ c < 8388608 := by omega
    rw [if_neg hb, if_neg hc]
    have he : b / 8388608 ≤ c / 8388608 := Nat.div_le_div_right (Nat.le_of_lt h)
    have pb := Nat.two_pow_pos (b / 8388608 - 1)
    by_cases hq : b / 8388608 = c / 8388608
    · rw [← hq]
      exact Nat.mul_lt_mul_of_pos_right (by omega) pb
    · have h1 : (8388608 + b % 8388608) * 2 ^ (b / 8388608 - 1) < 16777216 * 2 ^ (b / 8388608 - 1) := Nat.mul_lt_mul_of_pos_right (by omega) pb
      have h2 : 16777216 * 2 ^ (b / 8388608 - 1) = 8388608 * 2 ^ (b / 8388608) := by
        rw [show (16777216 : Nat) = 8388608 * 2 by rfl, Nat.mul_assoc, Nat.mul_comm 2, ← Nat.pow_succ]
        congr 2; omega
      have h3 : 8388608 * 2 ^ (b / 8388608) ≤ 8388608 * 2 ^ (c / 8388608 - 1) := Nat.mul_le_mul_left _ (Nat.pow_le_pow_right (by decide) (by omega))
      have h4 : 8388608 * 2 ^ (c / 8388608 - 1) ≤ (8388608 + c % 8388608) * 2 ^ (c / 8388608 - 1) := Nat.mul_le_mul_right _ (by omega)
      omega
theorem cmpI_gt {a b : Int} (h : compare a b = Ordering.gt) : b < a := by
  simp only [compare, compareOfLessAndEq] at h
  split at h
  · cases h
  · split at h
    · cases h
    · omega
theorem cmpI_lt {a b : Int} (h : compare a b = Ordering.lt) : a < b := by
  simp only [compare, compareOfLessAndEq] at h
  split at h
  · assumption
  · split at h <;> cases h
theorem cmpI_of {a b : Int} (h : a < b) : compare a b = Ordering.lt := by simp [compare, compareOfLessAndEq, h]
theorem sgn_pos (m k : Nat) : 0 ≤ signed false m k := by
  unfold signed
  rw [if_neg (by decide)]
  exact Int.natCast_nonneg _
theorem sgn_neg (m k : Nat) : signed true m k ≤ 0 := by
  unfold signed
  rw [if_pos rfl]
  have := Int.natCast_nonneg (m <<< k)
  omega
theorem sgn_zero (s : Bool) (k : Nat) : signed s 0 k = 0 := by unfold signed; simp
theorem sum_sign {a b : Int} (ha : 0 ≤ a) (hb : 0 ≤ b) : (if a + b = 0 then false else decide (a + b < 0)) = false := by
  split
  · rfl
  · simp only [decide_eq_false_iff_not]; omega
theorem cmp_scale {a b c : Nat} (hc : 0 < c) : compare (a * c) (b * c) = compare a b := by
  rcases Nat.lt_trichotomy a b with h | h | h
  · have := Nat.mul_lt_mul_of_pos_right h hc
    simp only [compare, compareOfLessAndEq]; rw [if_pos h, if_pos this]
  · subst h; simp [compare, compareOfLessAndEq]
  · have := Nat.mul_lt_mul_of_pos_right h hc
    simp only [compare, compareOfLessAndEq]
    rw [if_neg (show ¬ a < b by omega), if_neg (show ¬ a = b by omega), if_neg (show ¬ a * c < b * c by omega), if_neg (show ¬ a * c = b * c by omega)]
theorem cmp_int (a b : Nat) : compare (a : Int) (b : Int) = compare a b := by
  simp only [compare, compareOfLessAndEq, Int.ofNat_lt, Int.natCast_inj]
theorem cmp_val (a b : Nat) : compare (val32 a) (val32 b) = compare a b := by
  rcases Nat.lt_trichotomy a b with h | h | h
  · have := val32_lt h
    simp only [compare, compareOfLessAndEq]; rw [if_pos h, if_pos this]
  · subst h; simp [compare, compareOfLessAndEq]
  · have := val32_lt h
    simp only [compare, compareOfLessAndEq]
    rw [if_neg (show ¬ a < b by omega), if_neg (show ¬ a = b by omega), if_neg (show ¬ val32 a < val32 b by omega), if_neg (show ¬ val32 a = val32 b by omega)]
/-- Words that are not negative, and no NaN, stand as their numbers do. -/
theorem word_order {a b : Nat} (ha : a ≤ 2139095040) (hb : b ≤ 2139095040) : single.order a b = some (compare a b) := by
  unfold Format.order
  by_cases h1 : a < 2139095040
  · obtain ⟨m, i, hr, hi, hv⟩ := read_posM h1
    rw [hr]
    by_cases h2 : b < 2139095040
    · obtain ⟨n, j, hs, hj, hu⟩ := read_posM h2
      rw [hs]
      simp only [Datum.order, signed, Bool.false_eq_true, if_false, Nat.shiftLeft_eq]
      congr 1
      rw [cmp_int, ← cmp_scale (c := 2 ^ (min i j + 149).toNat) (Nat.two_pow_pos _), Nat.mul_assoc, Nat.mul_assoc, ← Nat.pow_add, ← Nat.pow_add]
      rw [show (i - min i j).toNat + (min i j + 149).toNat = (i + 149).toNat by omega, show (j - min i j).toNat + (min i j + 149).toNat = (j + 149).toNat by omega, hv, hu, cmp_val]
    · obtain ⟨c, hc⟩ : ∃ c, c = b := ⟨_, rfl⟩
      rw [show single.read b = .infinity false by rw [show b = 2139095040 by omega]; exact read_infM]
      simp only [Datum.order, Bool.false_eq_true, if_false, compare, compareOfLessAndEq]
      rw [if_pos (show a < b by omega)]
  · rw [show single.read a = .infinity false by rw [show a = 2139095040 by omega]; exact read_infM]
    by_cases h2 : b < 2139095040
    · obtain ⟨n, j, hs, hj, hu⟩ := read_posM h2
      rw [hs]
      simp only [Datum.order, Bool.false_eq_true, if_false, compare, compareOfLessAndEq]
      rw [if_neg (show ¬ a < b by omega), if_neg (show ¬ a = b by omega)]
    · rw [show single.read b = .infinity false by rw [show b = 2139095040 by omega]; exact read_infM]
      rw [show a = b by omega]
      simp [Datum.order, compare, compareOfLessAndEq]
theorem write_posM (m : Nat) (p : Int) : single.nearest false m p ≤ 2139095040 := by
  by_cases h : m = 0
  · unfold Format.nearest
    rw [if_pos h]
    simp [Format.word]
  · rw [nearest_is single _ h, ← inf32]
    simp only [Format.word, Bool.false_eq_true, if_false]
    exact Nat.min_le_right _ _
theorem write_inf : single.write (.infinity false) ≤ 2139095040 := by decide
/-- What two words that are not negative are together. -/
theorem add_pos {a b : Nat} (ha : a ≤ 2139095040) (hb : b ≤ 2139095040) : ∃ c, single.add a b = some c ∧ c ≤ 2139095040 := by
  unfold Format.add
  by_cases h1 : a < 2139095040
  · obtain ⟨m, i, hr, hi, hv⟩ := read_posM h1
    rw [hr]
    by_cases h2 : b < 2139095040
    · obtain ⟨n, j, hs, hj, hu⟩ := read_posM h2
      rw [hs]
      simp only [Datum.sum, Option.map_some]
      refine ⟨_, rfl, ?_⟩
      simp only [Bool.and_self, Format.write]
      rw [sum_sign (sgn_pos _ _) (sgn_pos _ _)]
      exact write_posM _ _
    · rw [show single.read b = .infinity false by rw [show b = 2139095040 by omega]; exact read_infM]
      simp only [Datum.sum, Option.map_some]
      exact ⟨_, rfl, write_inf⟩
  · rw [show single.read a = .infinity false by rw [show a = 2139095040 by omega]; exact read_infM]
    by_cases h2 : b < 2139095040
    · obtain ⟨n, j, hs, hj, hu⟩ := read_posM h2
      rw [hs]
      simp only [Datum.sum, Option.map_some]
      exact ⟨_, rfl, write_inf⟩
    · rw [show single.read b = .infinity false by rw [show b = 2139095040 by omega]; exact read_infM]
      simp only [Datum.sum, Option.map_some, if_true]
      exact ⟨_, rfl, write_inf⟩
/-- What is greater than 0 has no sign. -/
theorem gt_word {b : Nat} (hb : b < 4294967296) (h : single.order b 0 = some Ordering.gt) : 0 < b ∧ b ≤ 2139095040 := by
  have z : single.read 0 = .number false 0 (-149) := by decide
  have h0 : b ≠ 0 := fun e => by subst e; revert h; decide
  refine ⟨by omega, ?_⟩
  unfold Format.order at h
  rw [z] at h
  unfold Format.read at h
  simp only [sw32, bin32, inf32, lp32] at h
  by_cases hs : b < 2147483648
  · by_cases hn : b ≤ 2139095040
    · exact hn
    · exfalso
      have e : b % 2147483648 = b := by omega
      simp only [e] at h
      rw [if_neg (by omega), if_neg (by omega), if_neg (by omega)] at h
      simp [Datum.order] at h
  · exfalso
    have e : (b / 2147483648 % 2 == 1) = true := by rw [beq_iff_eq]; omega
    have hp : ∀ (m k l : Nat), ¬ compare (signed true m k) (signed false 0 l) = Ordering.gt := by
      intro m k l hh
      have := cmpI_gt hh
      rw [sgn_zero] at this
      have := sgn_neg m k
      omega
    simp only [e] at h
    split at h
    · simp only [Datum.order, Option.some.injEq] at h; exact hp _ _ _ h
    · split at h
      · simp only [Datum.order, Option.some.injEq] at h; exact hp _ _ _ h
      · split at h
        · simp [Datum.order] at h
        · simp [Datum.order] at h
/-- 0 less a number that is less than 0 is not negative. -/
theorem sub_neg {b : Nat} (h : single.order b 0 = some Ordering.lt) : ∃ c, single.sub 0 b = some c ∧ c ≤ 2139095040 := by
  have z : single.read 0 = .number false 0 (-149) := by decide
  unfold Format.order at h
  unfold Format.sub
  rw [z] at h ⊢
  cases hr : single.read b with
  | nan s f => rw [hr] at h; simp [Datum.order] at h
  | infinity s =>
    rw [hr] at h
    cases s
    · simp [Datum.order] at h
    · simp only [Datum.opposite, Datum.sum, Option.map_some, Bool.not_true]
      exact ⟨_, rfl, write_inf⟩
  | number s m i =>
    rw [hr] at h
    simp only [Datum.opposite, Datum.sum, Option.map_some]
    refine ⟨_, rfl, ?_⟩
    simp only [Format.write, Bool.false_and]
    cases s
    · exfalso
      simp only [Datum.order, Option.some.injEq] at h
      have := cmpI_lt h
      rw [sgn_zero] at this
      have := sgn_pos m (i - min i (-149)).toNat
      omega
    · rw [Bool.not_true, sum_sign (sgn_pos _ _) (sgn_pos _ _)]
      exact write_posM _ _
/-- A number that is greater than 0, divided by a word that is, too. -/
def qd32 (r x : Nat) : Nat := single.write (((single.read r).quotient 25 (single.read x)).getD (.nan false 0))
theorem read_infW {x : Nat} (h : x ≤ 2139095040) (h2 : ¬ x < 2139095040) : single.read x = .infinity false := by
  rw [show x = 2139095040 by omega]; exact read_infM
theorem write_none : single.write (.number false 0 0) = 0 := by decide
theorem qd32_is {r x : Nat} (hr : r < 2139095040) (h0 : 0 < x) (h : x ≤ 2139095040) : ((single.read r).quotient 25 (single.read x)).map single.write = some (qd32 r x) := by
  unfold qd32
  obtain ⟨a, p, e, _⟩ := read_posM hr
  rw [e]
  by_cases hx : x < 2139095040
  · obtain ⟨n, j, e2, _, hv⟩ := read_posM hx
    rw [e2]
    have hn : n ≠ 0 := fun e => by
      have := val32_pos h0
      rw [e, Nat.zero_mul] at hv
      omega
    simp only [Datum.quotient, if_neg hn, Option.map_some, Option.getD_some]
  · rw [read_infW h hx]
    simp only [Datum.quotient, Option.map_some, Option.getD_some]
theorem qd32_inf {r x : Nat} (hr : r < 2139095040) (h : x ≤ 2139095040) (h2 : ¬ x < 2139095040) : qd32 r x = 0 := by
  unfold qd32
  obtain ⟨a, p, e, _⟩ := read_posM hr
  rw [e, read_infW h h2]
  simp only [Datum.quotient, Option.getD_some, Bool.xor_self]
  exact write_none
theorem qd32_fin {r x : Nat} (hr : r < 2139095040) (r0 : 0 < r) (hx : x < 2139095040) (h0 : 0 < x) {a : Nat} {p : Int} (e : single.read r = .number false a p) : ∃ n j M, n ≠ 0 ∧ a ≠ 0 ∧ -149 ≤ j ∧ n * 2 ^ (j + 149).toNat = val32 x ∧ qd32 r x = min (rungN single (stk (a * 2 ^ M) n) (p - j - (M : Nat) - 1)) single.infRung ∧ 2 ^ (single.fractionBits + 1) ≤ a * 2 ^ M / n := by
  obtain ⟨a', p', e', _, hva⟩ := read_posM hr
  rw [e] at e'
  injection e' with _ ea ep
  subst ea ep
  obtain ⟨n, j, e2, hj, hv⟩ := read_posM hx
  have hn : n ≠ 0 := fun e => by
    have := val32_pos h0
    rw [e, Nat.zero_mul] at hv
    omega
  have ha : a ≠ 0 := fun e => by
    have := val32_pos r0
    rw [e, Nat.zero_mul] at hva
    omega
  obtain ⟨D, hD⟩ : ∃ D, D = 24 := ⟨_, rfl⟩
  have hfb : single.fractionBits + 1 = D := by rw [hD]; rfl
  have hq : 2 ^ (single.fractionBits + 1) ≤ a * 2 ^ (25 + n.log2 - a.log2) / n := by
    rw [hfb, Nat.le_div_iff_mul_le (Nat.pos_of_ne_zero hn)]
    have h1 : 2 ^ a.log2 ≤ a := Nat.log2_self_le ha
    have h2 : n < 2 ^ (n.log2 + 1) := Nat.lt_log2_self
    refine Nat.le_trans (Nat.mul_le_mul_left _ (Nat.le_of_lt h2)) (Nat.le_trans ?_ (Nat.mul_le_mul_right _ h1))
    rw [← Nat.pow_add, ← Nat.pow_add]
    exact Nat.pow_le_pow_right (by decide) (by omega)
  refine ⟨n, j, 25 + n.log2 - a.log2, hn, ha, hj, hv, ?_, hq⟩
  have h0 : stk (a * 2 ^ (25 + n.log2 - a.log2)) n ≠ 0 := by
    have : 0 < 2 ^ (single.fractionBits + 1) := Nat.two_pow_pos _
    unfold stk
    generalize 2 ^ (single.fractionBits + 1) = z at *
    omega
  unfold qd32
  rw [e, e2]
  simp only [Datum.quotient, if_neg hn, Option.getD_some, Nat.shiftLeft_eq, Bool.xor_self, Format.write]
  unfold stk at h0 ⊢
  rw [nearest_is single _ h0]
  simp only [Format.word, Bool.false_eq_true, if_false]
theorem qd32_le {r x : Nat} (hr : r < 2139095040) (r0 : 0 < r) (h0 : 0 < x) (h : x ≤ 2139095040) : qd32 r x ≤ 2139095040 := by
  by_cases hx : x < 2139095040
  · obtain ⟨a, p, e, _⟩ := read_posM hr
    obtain ⟨n, j, M, _, _, _, _, e, _⟩ := qd32_fin hr r0 hx h0 e
    rw [e, ← inf32]
    exact Nat.min_le_right _ _
  · rw [qd32_inf hr h hx]; omega
theorem stk_pos {D k : Nat} (d : Nat) (hk : 0 < k) (hD : 0 < D / k) : stk (D * 2 ^ d) k ≠ 0 := by
  have g1 : D / k * 2 ^ d ≤ D * 2 ^ d / k := by
    rw [Nat.le_div_iff_mul_le hk, Nat.mul_right_comm]
    exact Nat.mul_le_mul_right _ (Nat.div_mul_le_self _ _)
  have : 0 < D / k * 2 ^ d := Nat.mul_pos hD (Nat.two_pow_pos d)
  unfold stk
  omega
/-- The greater what divides, the less the quotient, rounded too. -/
theorem qd32_anti {r x y : Nat} (hr : r < 2139095040) (r0 : 0 < r) (h0 : 0 < x) (h : x ≤ y) (hy : y ≤ 2139095040) : qd32 r y ≤ qd32 r x := by
  by_cases hyi : y < 2139095040
  · obtain ⟨a, p, e, hp, _⟩ := read_posM hr
    obtain ⟨n, j, M1, hn, ha, hj, hv, e1, d1⟩ := qd32_fin hr r0 (show x < 2139095040 by omega) h0 e
    obtain ⟨m, i, M2, hm, _, hi, hu, e2, d2⟩ := qd32_fin hr r0 hyi (by omega) e
    have hxy := val32_mono h
    rw [← hv, ← hu] at hxy
    have hn0 := Nat.pos_of_ne_zero hn
    have hm0 := Nat.pos_of_ne_zero hm
    have z1 : M2 + (j + M1 + 400).toNat = (j + 149).toNat + (M1 + M2 + 251) := by omega
    have z2 : M1 + (i + M2 + 400).toNat = (i + 149).toNat + (M1 + M2 + 251) := by omega
    have hP : p - i - (M2 : Nat) - 1 - ((j + M1 + 400).toNat : Nat) = p - j - (M1 : Nat) - 1 - ((i + M2 + 400).toNat : Nat) := by omega
    have k1 := rungN_stk single hn0 d1 (p - j - (M1 : Nat) - 1) (i + M2 + 400).toNat
    have k2 := rungN_stk single hm0 d2 (p - i - (M2 : Nat) - 1) (j + M1 + 400).toNat
    have p1 : 0 < a * 2 ^ M1 / n := Nat.lt_of_lt_of_le (Nat.two_pow_pos _) d1
    have p2 : 0 < a * 2 ^ M2 / m := Nat.lt_of_lt_of_le (Nat.two_pow_pos _) d2
    have n1 := stk_pos (i + M2 + 400).toNat hn0 p1
    have n2 := stk_pos (j + M1 + 400).toNat hm0 p2
    have ac : ∀ (b c d e f g : Nat), c * d = e * f → b * c * d * g = b * (g * e) * f := by
      intro b c d e f g hh
      rw [Nat.mul_assoc b, hh]
      simp only [Nat.mul_comm, Nat.mul_left_comm, Nat.mul_assoc]
    have A1 : a * 2 ^ M1 * 2 ^ (i + M2 + 400).toNat * m = a * (m * 2 ^ (i + 149).toNat) * 2 ^ (M1 + M2 + 251) := ac _ _ _ _ _ _ (by rw [← Nat.pow_add, ← Nat.pow_add, z2])
    have A2 : a * 2 ^ M2 * 2 ^ (j + M1 + 400).toNat * n = a * (n * 2 ^ (j + 149).toNat) * 2 ^ (M1 + M2 + 251) := ac _ _ _ _ _ _ (by rw [← Nat.pow_add, ← Nat.pow_add, z1])
    have hk := stk_mono (a1 := a * 2 ^ M1 * 2 ^ (i + M2 + 400).toNat) (a2 := a * 2 ^ M2 * 2 ^ (j + M1 + 400).toNat) hn0 hm0 (by
      rw [A1, A2]
      exact Nat.mul_le_mul_right _ (Nat.mul_le_mul_left _ hxy))
    rw [hP] at k2
    generalize p - j - (M1 : Nat) - 1 - ((i + M2 + 400).toNat : Nat) = P at k1 k2
    have := rungN_mono single (p1 := P) (p2 := P) (B := min (-149) P) n2 n1 (by omega) (by omega) (by rw [lp32]; omega) (Nat.mul_le_mul_right _ hk)
    rw [e1, e2, k1, k2]
    exact (Nat.le_min).2 ⟨Nat.le_trans (Nat.min_le_left _ _) this, Nat.min_le_right _ _⟩
  · rw [qd32_inf hr hy hyi]; exact Nat.zero_le _
end Go.Proofs.YtjhaonfdapldcaaDoor
