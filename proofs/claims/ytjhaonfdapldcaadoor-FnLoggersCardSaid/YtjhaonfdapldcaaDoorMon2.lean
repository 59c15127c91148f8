/- The product with 2 is monotone, the quotient of a number that is not less than 0 is antitone in what divides it: as words. No condition; no program. -/
import Derived.Test.YtjhaonfdapldcaaDoorMono
namespace Go.Proofs.YtjhaonfdapldcaaDoor
open Go Ieee
set_option linter.unusedSimpArgs false
set_option linter.unusedVariables false

/-- The value of a word that is not negative, in units of the last place. -/
def val32 (b : Nat) : Nat := if b < 8388608 then b else (8388608 + b % 8388608) * 2 ^ (b / 8388608 - 1)
theorem val32_mono {b c : Nat} (h : b ≤ c) : val32 b ≤ val32 c := by
  unfold val32
  have pc := Nat.two_pow_pos (c / 8388608 - 1)
  by_cases hb : b < 8388608
  · rw [if_pos hb]
    by_cases hc : c < 8388608
    · rw [if_pos hc]; exact h
    · rw [if_neg hc]
      have := Nat.mul_le_mul_left (8388608 + c % 8388608) pc
      omega
  · have hc : ¬ c < 8388608 := by omega
    rw [if_neg hb, if_neg hc]
    have he : b / 8388608 ≤ c / 8388608 := Nat.div_le_div_right h
    by_cases hq : b / 8388608 = c / 8388608
    · rw [hq]
      exact Nat.mul_le_mul_right _ (by omega)
    · have h1 : (8388608 + b % 8388608) * 2 ^ (b / 8388608 - 1) ≤ 16777216 * 2 ^ (b / 8388608 - 1) := Nat.mul_le_mul_right _ (by omega)
      have h2 : 16777216 * 2 ^ (b / 8388608 - 1) = 8388608 * 2 ^ (b / 8388608) := by
        rw [show (16777216 : Nat) = 8388608 * 2 by rfl, Nat.mul_assoc, Nat.mul_comm 2, ← Nat.pow_succ]
        congr 2; omega
      have h3 : 8388608 * 2 ^ (b / 8388608) ≤ 8388608 * 2 ^ (c / 8388608 - 1) := Nat.mul_le_mul_left _ (Nat.pow_le_pow_right (by decide) (by omega))
      have h4 : 8388608 * 2 ^ (c / 8388608 - 1) ≤ (8388608 + c % 8388608) * 2 ^ (c / 8388608 - 1) := Nat.mul_le_mul_right _ (by omega)
      omega
theorem lp32 : single.leastPlace = -149 := by decide
theorem inf32 : single.infRung = 2139095040 := by decide
theorem bin32 : single.binade = 8388608 := by decide
theorem sw32 : single.signWeight = 2147483648 := by decide
theorem read_posM {b : Nat} (h : b < 2139095040) : ∃ m i, single.read b = .number false m i ∧ -149 ≤ i ∧ m * 2 ^ (i + 149).toNat = val32 b := by
  have h1 : b / 2147483648 = 0 := by omega
  have h2 : b % 2147483648 = b := by omega
  unfold Format.read val32
  simp only [sw32, bin32, inf32, lp32, h1, h2]
  by_cases hb : b < 8388608
  · simp only [if_pos hb]
    exact ⟨b, -149, rfl, by omega, by simp⟩
  · simp only [if_neg hb, if_pos h]
    exact ⟨8388608 + b % 8388608, _, rfl, by omega, by congr 2; omega⟩
theorem read_infM : single.read 2139095040 = .infinity false := by decide
theorem val32_pos {b : Nat} (h : 0 < b) : 0 < val32 b := by
  have := val32_mono (b := 1) (c := b) h
  have h1 : val32 1 = 1 := by decide
  omega
theorem read_two {K : Nat} (hK : K = 8388608) : single.read 1073741824 = .number false K (-22) := by subst hK; decide
/-- Twice a word that is not negative. -/
def tw32 (x : Nat) : Nat := single.write (((single.read 1073741824).product (single.read x)).getD (.nan false 0))
theorem tw32_is {x : Nat} (h : x ≤ 2139095040) : single.mul 1073741824 x = some (tw32 x) := by
  obtain ⟨K, hK⟩ : ∃ K : Nat, K = 8388608 := ⟨_, rfl⟩
  unfold Format.mul tw32
  by_cases hx : x < 2139095040
  · obtain ⟨m, i, hr, _⟩ := read_posM hx
    rw [hr, read_two hK]
    simp only [Datum.product, Option.map_some, Option.getD_some]
  · obtain rfl : x = 2139095040 := by omega
    rw [read_infM, read_two hK]
    simp only [Datum.product]
    rw [if_neg (by omega)]
    simp only [Option.map_some, Option.getD_some]
theorem tw32_inf : tw32 2139095040 = 2139095040 := by
  obtain ⟨K, hK⟩ : ∃ K : Nat, K = 8388608 := ⟨_, rfl⟩
  unfold tw32
  rw [read_infM, read_two hK]
  simp only [Datum.product]
  rw [if_neg (by omega)]
  decide
theorem tw32_fin {K : Nat} (hK : K = 8388608) {x : Nat} (h : x < 2139095040) (h0 : 0 < x) : ∃ m i, m ≠ 0 ∧ -149 ≤ i ∧ m * 2 ^ (i + 149).toNat = val32 x ∧ tw32 x = min (rungN single (K * m) (-22 + i)) single.infRung := by
  obtain ⟨m, i, hr, hi, hv⟩ := read_posM h
  have hm : m ≠ 0 := fun e => by
    have := val32_pos h0
    rw [e, Nat.zero_mul] at hv
    omega
  refine ⟨m, i, hm, hi, hv, ?_⟩
  unfold tw32
  rw [hr, read_two hK]
  simp only [Datum.product, Option.getD_some, Format.write, Bool.xor_self]
  rw [nearest_is single _ (Nat.mul_ne_zero (by omega) hm)]
  simp only [Format.word, Bool.false_eq_true, if_false]
theorem val_shift (K : Nat) {m : Nat} {i : Int} (hi : -149 ≤ i) : K * m * 2 ^ (-22 + i - (-171)).toNat = K * (m * 2 ^ (i + 149).toNat) := by
  have e : (-22 + i - (-171)).toNat = (i + 149).toNat := by omega
  rw [Nat.mul_assoc, e]
theorem tw32_mono {x y : Nat} (h0 : 0 < x) (h : x ≤ y) (hy : y ≤ 2139095040) : tw32 x ≤ tw32 y ∧ tw32 y ≤ 2139095040 ∧ 0 < tw32 x := by
  obtain ⟨K, hK⟩ : ∃ K : Nat, K = 8388608 := ⟨_, rfl⟩
  have hK0 : K ≠ 0 := by omega
  have hpos : ∀ z, 0 < z → z ≤ 2139095040 → 0 < tw32 z ∧ tw32 z ≤ 2139095040 := by
    intro z hz0 hz
    by_cases hzi : z < 2139095040
    · obtain ⟨m, i, hm, hi, hv, ht⟩ := tw32_fin hK hzi hz0
      have h1 : rungN single 1 (-149) = 1 := by decide
      have := rungN_mono single (m1 := 1) (m2 := K * m) (p1 := -149) (p2 := -22 + i) (B := -171) (by decide) (Nat.mul_ne_zero hK0 hm) (by omega) (by omega) (by rw [lp32]; omega) (by
        rw [val_shift K hi, hv]
        have := val32_pos hz0
        have e : (1 * 2 ^ (-149 - (-171 : Int)).toNat : Nat) = 4194304 := by decide
        rw [e]
        have := Nat.le_mul_of_pos_right K this
        omega)
      rw [h1] at this
      rw [ht, inf32]
      generalize rungN single (K * m) (-22 + i) = a at *
      omega
    · obtain rfl : z = 2139095040 := by omega
      rw [tw32_inf]; omega
  refine ⟨?_, (hpos y (by omega) hy).2, (hpos x h0 (by omega)).1⟩
  by_cases hyi : y < 2139095040
  · obtain ⟨m, i, hm, hi, hv, ht⟩ := tw32_fin hK (x := x) (by omega) h0
    obtain ⟨n, j, hn, hj, hw, hu⟩ := tw32_fin hK hyi (by omega)
    have := rungN_mono single (m1 := K * m) (m2 := K * n) (p1 := -22 + i) (p2 := -22 + j) (B := -171) (Nat.mul_ne_zero hK0 hm) (Nat.mul_ne_zero hK0 hn) (by omega) (by omega) (by rw [lp32]; omega) (by
      rw [val_shift K hi, val_shift K hj, hv, hw]
      exact Nat.mul_le_mul_left _ (val32_mono h))
    rw [ht, hu]
    generalize rungN single (K * m) (-22 + i) = a at *
    generalize rungN single (K * n) (-22 + j) = b at *
    omega
  · obtain rfl : y = 2139095040 := by omega
    rw [tw32_inf]
    exact (hpos x h0 (by omega)).2
end Go.Proofs.YtjhaonfdapldcaaDoor
