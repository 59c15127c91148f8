/- The bits of a mask, in ascending order. No condition. -/
import Derived.Lib.TrailingZeros
namespace Go.Proofs.YtcfkkceidlpdkaaDoor

/-- The numbers of the bits that are set, in ascending order. -/
def bitsL (m : Nat) : List Nat := (List.range 64).filter fun i => m.testBit i

theorem mem_bitsL {m i : Nat} : i ∈ bitsL m ↔ i < 64 ∧ m.testBit i = true := by simp [bitsL]

theorem bitsL_zero : bitsL 0 = [] := by simp [bitsL]

/-- What is left when the lowest bit is struck. -/
theorem testBit_next (k q i : Nat) : ((2 ^ k * (2 * q + 1)) &&& (2 ^ k * (2 * q + 1) - 1)).testBit i = ((2 ^ k * (2 * q + 1)).testBit i && decide (i ≠ k)) := by
  have hp := Nat.two_pow_pos k
  have e : 2 ^ k * (2 * q + 1) - 1 = 2 ^ k * (2 * q) + (2 ^ k - 1) := by
    rw [Nat.mul_add, Nat.mul_one]; omega
  rw [Nat.testBit_and, e, Nat.testBit_two_pow_mul_add _ (by omega), Nat.testBit_two_pow_sub_one]
  rw [Nat.mul_comm (2 ^ k), Nat.testBit_mul_two_pow]
  by_cases h1 : i < k
  · have : ¬ k ≤ i := by omega
    simp [this]
  · by_cases h2 : i = k
    · subst h2
      simp
    · obtain ⟨j, rfl⟩ : ∃ j, i = k + (j + 1) := ⟨i - k - 1, by omega⟩
      have e3 : k + (j + 1) - k = j + 1 := by omega
      have d1 : (2 * q + 1) / 2 = q := by omega
      have d2 : 2 * q / 2 = q := by omega
      simp only [e3, Nat.testBit_succ, d1, d2]
      simp
      intro h
      exact .inr h

theorem bitsL_cons {m : Nat} (h0 : m ≠ 0) (h : m < 2 ^ 64) : bitsL m = Lib.ctz 64 m :: bitsL (m &&& (m - 1)) := by
  obtain ⟨q, hq, hk⟩ := Lib.ctzFrom_spec 64 m (by omega) h
  have e : Lib.ctz 64 m = Lib.ctzFrom 64 m := by simp [Lib.ctz, h0]
  rw [e]
  generalize Lib.ctzFrom 64 m = k at hq hk
  have hb : ∀ i, m.testBit i = (decide (k ≤ i) && (2 * q + 1).testBit (i - k)) := fun i => by
    rw [hq, Nat.mul_comm (2 ^ k), Nat.testBit_mul_two_pow]
  have hn : ∀ i, (m &&& (m - 1)).testBit i = (m.testBit i && decide (i ≠ k)) := fun i => by
    rw [hq]; exact testBit_next k q i
  have hr : List.range 64 = List.range k ++ k :: List.range' (k + 1) (63 - k) := by
    rw [List.range_eq_range', List.range_eq_range', ← List.range'_succ]
    have := @List.range'_append 0 k (63 - k + 1) 1
    rw [Nat.one_mul, Nat.zero_add] at this
    rw [this]
    congr 1
    omega
  unfold bitsL
  rw [hr, List.filter_append, List.filter_append, List.filter_cons, List.filter_cons]
  have z1 : (List.range k).filter (fun i => m.testBit i) = [] := by
    rw [List.filter_eq_nil_iff]
    intro i hi
    have : ¬ k ≤ i := by simp at hi; omega
    simp [hb, this]
  have z2 : (List.range k).filter (fun i => (m &&& (m - 1)).testBit i) = [] := by
    rw [List.filter_eq_nil_iff]
    intro i hi
    have : ¬ k ≤ i := by simp at hi; omega
    simp [hn, hb, this]
  have o1 : m.testBit k = true := by simp [hb]
  have o2 : (m &&& (m - 1)).testBit k = false := by simp [hn]
  rw [z1, z2, if_pos o1, if_neg (by simp [o2])]
  simp only [List.nil_append, List.cons.injEq, true_and]
  refine List.filter_congr fun i hi => ?_
  have : i ≠ k := by simp [List.mem_range'] at hi; omega
  simp [hn, this]
end Go.Proofs.YtcfkkceidlpdkaaDoor
