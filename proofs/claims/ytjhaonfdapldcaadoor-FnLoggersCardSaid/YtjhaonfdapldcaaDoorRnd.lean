/- A number in double precision to the nearest whole number, halves away from 0: how the model makes it, how the program does. No condition; no program. -/
import Derived.Test.YtjhaonfdapldcaaDoorDbl
import Derived.Test.YtjhaonfdapldcaaDoorNums
namespace Go.Proofs.YtjhaonfdapldcaaDoor
open Go Ieee
set_option linter.unusedSimpArgs false
set_option linter.unusedVariables false

/-- A size to the nearest whole number. -/
def qN (A : Nat) : Nat := whN A + (if 2 ^ dgN A ≤ 2 * lfN A then 1 else 0)
/-- What a logger keeps of it. -/
def lgN (s : Bool) (A : Nat) : Int := if s then -((min (qN A) 32768 : Nat) : Int) else ((min (qN A) 32767 : Nat) : Int)
/-- The unit of whole numbers; a half of it. -/
def uN : Nat := 2 ^ ((0 : Int) + 1074).toNat
def hN : Nat := 2 ^ ((-1 : Int) + 1074).toNat
theorem u_h : uN = 2 * hN := by
  unfold uN hN
  rw [show ((0 : Int) + 1074).toNat = ((-1 : Int) + 1074).toNat + 1 by decide, Nat.pow_succ, Nat.mul_comm]
theorem h_pos : 0 < hN := Nat.two_pow_pos _
theorem rung_int {n : Nat} (h0 : n ≠ 0) (h : n < 9007199254740992) : val64 (rungN double n 0) = n * uN := rung_val h0 h (by omega)
theorem w67 : rungN double 32767 0 = 4674736138332667904 := by decide
theorem w68 : rungN double 32768 0 = 4674736413210574848 := by decide
theorem w05 : rungN double 1 (-1) = 4602678819172646912 := by decide
theorem v67 : val64 4674736138332667904 = 32767 * uN := by rw [← w67]; exact rung_int (by decide) (by decide)
theorem v68 : val64 4674736413210574848 = 32768 * uN := by rw [← w68]; exact rung_int (by decide) (by decide)
theorem v05 : val64 4602678819172646912 = hN := by rw [← w05, rung_val (by decide) (by decide) (by decide), Nat.one_mul]; rfl
theorem u_split {A : Nat} (hp : plN A ≤ 0) : uN = 2 ^ dgN A * 2 ^ (plN A + 1074).toNat := by
  have := pl_ge A
  unfold uN dgN
  rw [← Nat.pow_add]
  congr 1
  omega
theorem cmp_ge_dec (a b : Int) : (some (compare a b) == some Ordering.gt || some (compare a b) == some Ordering.eq) = decide (b ≤ a) := by
  rcases Int.lt_trichotomy a b with h | h | h
  · rw [show decide (b ≤ a) = false by simp; omega]
    simp [compare, compareOfLessAndEq, h]
  · subst h; simp [compare, compareOfLessAndEq]
  · rw [show decide (b ≤ a) = true by simp; omega]
    simp only [compare, compareOfLessAndEq, if_neg (show ¬ a < b by omega), if_neg (show ¬ a = b by omega)]
    rfl
theorem cmp_le_dec (a b : Int) : (some (compare a b) == some Ordering.lt || some (compare a b) == some Ordering.eq) = decide (a ≤ b) := by
  rcases Int.lt_trichotomy a b with h | h | h
  · rw [show decide (a ≤ b) = true by simp; omega]
    simp [compare, compareOfLessAndEq, h]
  · subst h; simp [compare, compareOfLessAndEq]
  · rw [show decide (a ≤ b) = false by simp; omega]
    simp only [compare, compareOfLessAndEq, if_neg (show ¬ a < b by omega), if_neg (show ¬ a = b by omega)]
    rfl
theorem lf_lt (A : Nat) : lfN A < 2 ^ dgN A := Nat.mod_lt _ (Nat.two_pow_pos _)
/-- A size is no less than n units just where its whole part is. -/
theorem ge_whole {A : Nat} (hp : plN A ≤ 0) (n : Nat) : n * uN ≤ val64 A ↔ n ≤ whN A := by
  rw [val_split A hp, u_split hp, ← Nat.mul_assoc]
  have hu := Nat.two_pow_pos (plN A + 1074).toNat
  have hl := lf_lt A
  have hd := Nat.two_pow_pos (dgN A)
  constructor
  · intro h
    have h2 := Nat.le_of_mul_le_mul_right h hu
    by_cases e : n ≤ whN A
    · exact e
    · exfalso
      have h3 := Nat.mul_le_mul_right (2 ^ dgN A) (show whN A + 1 ≤ n by omega)
      rw [Nat.add_mul, Nat.one_mul] at h3
      omega
  · intro h
    refine Nat.mul_le_mul_right _ ?_
    have h3 := Nat.mul_le_mul_right (2 ^ dgN A) h
    omega
theorem tst67 {s : Bool} {A : Nat} (ha : A < 9218868437227405312) (hp : plN A ≤ 0) : (FloatKind.f64.format.order (wd s A) 4674736138332667904 == some Ordering.gt || FloatKind.f64.format.order (wd s A) 4674736138332667904 == some Ordering.eq) = (!s && decide (32767 ≤ whN A)) := by
  have ho := order64 s false (A := A) (B := 4674736138332667904) ha (by decide)
  rw [show FloatKind.f64.format.order (wd s A) 4674736138332667904 = some (compare (sv s A) (sv false 4674736138332667904)) from ho, cmp_ge_dec]
  have hg := ge_whole hp 32767
  have hu := h_pos
  have hu2 := u_h
  unfold sv
  rw [v67]
  cases s
  · simp only [Bool.false_eq_true, if_false, Bool.not_false, Bool.true_and]
    refine decide_eq_decide.2 ?_
    rw [← hg]
    exact Int.ofNat_le
  · simp only [if_true, Bool.false_eq_true, if_false, Bool.not_true, Bool.false_and]
    rw [decide_eq_false_iff_not]
    omega
theorem tst68 {s : Bool} {A : Nat} (ha : A < 9218868437227405312) (hp : plN A ≤ 0) : (FloatKind.f64.format.order (wd s A) 13898108450065350656 == some Ordering.lt || FloatKind.f64.format.order (wd s A) 13898108450065350656 == some Ordering.eq) = (s && decide (32768 ≤ whN A)) := by
  have ho := order64 s true (A := A) (B := 4674736413210574848) ha (by decide)
  rw [show FloatKind.f64.format.order (wd s A) 13898108450065350656 = some (compare (sv s A) (sv true 4674736413210574848)) from ho, cmp_le_dec]
  have hg := ge_whole hp 32768
  have hu := h_pos
  have hu2 := u_h
  unfold sv
  rw [v68]
  cases s
  · simp only [if_true, Bool.false_eq_true, if_false, Bool.false_and]
    rw [decide_eq_false_iff_not]
    omega
  · simp only [if_true, Bool.true_and]
    refine decide_eq_decide.2 ?_
    rw [← hg]
    omega
theorem rung_fin {m : Nat} {p : Int} (h0 : m ≠ 0) (h : m < 9007199254740992) (hp : p ≤ 900) : rungN double m p < 9218868437227405312 := by
  have hb : rungN double 1 960 = 8930638061075693568 := by decide
  obtain ⟨B, hB⟩ : ∃ B : Int, B = min p (-1074) := ⟨_, rfl⟩
  have := rungN_mono double (m1 := m) (m2 := 1) (p1 := p) (p2 := 960) (B := B) h0 (by decide) (by omega) (by omega) (by rw [lp64]; omega) (by
    rw [Nat.one_mul]
    refine Nat.le_trans (Nat.mul_le_mul_right _ (show m ≤ 2 ^ 53 by rw [show (2 : Nat) ^ 53 = 9007199254740992 by rfl]; omega)) ?_
    rw [← Nat.pow_add]
    exact Nat.pow_le_pow_right (by decide) (by omega))
  rw [hb] at this
  omega
/-- A whole number with a sign, as a word. -/
theorem float_int (s : Bool) {n : Nat} (h : n < 9007199254740992) : ∃ t R, floatOfInt .f64 (if s then -((n : Nat) : Int) else ((n : Nat) : Int)) = wd t R ∧ R < 9218868437227405312 ∧ val64 R = n * uN ∧ (n ≠ 0 → t = s) := by
  show ∃ t R, double.nearest (decide ((if s then -((n : Nat) : Int) else ((n : Nat) : Int)) < 0)) (if s then -((n : Nat) : Int) else ((n : Nat) : Int)).natAbs 0 = wd t R ∧ _
  have hna : (if s then -((n : Nat) : Int) else ((n : Nat) : Int)).natAbs = n := by cases s <;> simp
  rw [hna]
  by_cases h0 : n = 0
  · subst h0
    rw [near0]
    exact ⟨_, 0, rfl, by decide, by rw [Nat.zero_mul]; rfl, fun h => absurd rfl h⟩
  · have hsg : decide ((if s then -((n : Nat) : Int) else ((n : Nat) : Int)) < 0) = s := by
      cases s
      · simp
      · simp; omega
    rw [hsg, near64 s h0]
    have hf := rung_fin h0 h (p := 0) (by omega)
    exact ⟨s, _, by rw [Nat.min_eq_left (Nat.le_of_lt hf)], hf, rung_int h0 h, fun _ => rfl⟩
/-- What is left behind the whole part: exact. -/
theorem rest_is (s : Bool) {A : Nat} (ha : A < 9218868437227405312) (hp : plN A ≤ 0) : ∃ t R, double.sub (wd s A) (floatOfInt .f64 (if s then -((whN A : Nat) : Int) else ((whN A : Nat) : Int))) = some (wd t R) ∧ R < 9218868437227405312 ∧ val64 R = lfN A * 2 ^ (plN A + 1074).toNat ∧ (lfN A ≠ 0 → t = s) := by
  have hm := mt_lt A
  have hw : whN A < 9007199254740992 := Nat.lt_of_le_of_lt (Nat.div_le_self _ _) hm
  have hl : lfN A < 9007199254740992 := Nat.lt_of_le_of_lt (Nat.mod_le _ _) hm
  have pA := pl_ge A
  obtain ⟨t, R, e, hR, hv, ht⟩ := float_int s hw
  have pR := pl_ge R
  rw [e]
  unfold Format.sub
  rw [read64 s ha, read64 t hR]
  simp only [Datum.opposite, Datum.sum, Option.map_some]
  obtain ⟨b, hb⟩ : ∃ b, min (plN A) (plN R) = b := ⟨_, rfl⟩
  rw [hb]
  -- the difference, in units of the last place
  have hd : (signed s (mtN A) (plN A - b).toNat + signed (!t) (mtN R) (plN R - b).toNat) * ((2 ^ (b + 1074).toNat : Nat) : Int) = if s then -((lfN A * 2 ^ (plN A + 1074).toNat : Nat) : Int) else ((lfN A * 2 ^ (plN A + 1074).toNat : Nat) : Int) := by
    rw [Int.add_mul, signed_up s A b (by omega) (by omega)]
    have h2 : signed (!t) (mtN R) (plN R - b).toNat * ((2 ^ (b + 1074).toNat : Nat) : Int) = sv (!t) R := by
      rw [signed_val]
      unfold sv
      have e : mtN R * 2 ^ (plN R - b).toNat * 2 ^ (b + 1074).toNat = val64 R := by
        rw [Nat.mul_assoc, ← Nat.pow_add, ← mt_val R]
        congr 2
        omega
      rw [← e]
      split
      · rw [Int.neg_mul]; push_cast; rfl
      · push_cast; rfl
    rw [h2]
    unfold sv
    have hsp := val_split A hp
    have hx : val64 R = whN A * 2 ^ dgN A * 2 ^ (plN A + 1074).toNat := by rw [hv, u_split hp, ← Nat.mul_assoc]
    have hz : whN A * 2 ^ dgN A * 2 ^ (plN A + 1074).toNat = 0 ∨ t = s := by
      by_cases h0 : whN A = 0
      · left; rw [h0, Nat.zero_mul, Nat.zero_mul]
      · right; exact ht h0
    rw [hx, hsp, Nat.add_mul]
    generalize whN A * 2 ^ dgN A * 2 ^ (plN A + 1074).toNat = x at *
    generalize lfN A * 2 ^ (plN A + 1074).toNat = y at *
    rcases hz with rfl | rfl
    · cases s <;> cases t <;> simp
    · cases t <;> simp <;> omega
  have hcp := Nat.two_pow_pos (b + 1074).toNat
  have hup := Nat.two_pow_pos (plN A + 1074).toNat
  generalize htot : signed s (mtN A) (plN A - b).toNat + signed (!t) (mtN R) (plN R - b).toNat = tot at hd ⊢
  by_cases h0 : lfN A = 0
  · have ht0 : tot = 0 := by
      rw [h0, Nat.zero_mul] at hd
      have : tot * ((2 ^ (b + 1074).toNat : Nat) : Int) = 0 := by rw [hd]; cases s <;> rfl
      rcases Int.mul_eq_zero.1 this with e | e
      · exact e
      · omega
    rw [ht0]
    refine ⟨if (0 : Int) = 0 then s && !t else decide ((0 : Int) < 0), 0, by simp only [Int.natAbs_zero, Format.write, near0], by decide, ?_, fun h => absurd h0 h⟩
    rw [h0, Nat.zero_mul]; rfl
  · have hy : 0 < lfN A * 2 ^ (plN A + 1074).toNat := Nat.mul_pos (Nat.pos_of_ne_zero h0) hup
    have hne : tot ≠ 0 := by
      rintro rfl
      rw [Int.zero_mul] at hd
      generalize lfN A * 2 ^ (plN A + 1074).toNat = y at *
      cases s <;> simp at hd <;> omega
    have habs : tot.natAbs * 2 ^ (b + 1074).toNat = lfN A * 2 ^ (plN A + 1074).toNat := by
      have := congrArg Int.natAbs hd
      rw [Int.natAbs_mul, Int.natAbs_natCast] at this
      rw [this]
      cases s
      · simp only [Bool.false_eq_true, if_false, Int.natAbs_natCast]
      · simp only [if_true, Int.natAbs_neg, Int.natAbs_natCast]
    have hsg : decide (tot < 0) = s := by
      generalize 2 ^ (b + 1074).toNat = c at *
      generalize lfN A * 2 ^ (plN A + 1074).toNat = y at *
      have hci : (0 : Int) < c := by omega
      cases s
      · simp only [Bool.false_eq_true, if_false] at hd
        rw [decide_eq_false_iff_not]
        intro hlt
        have := Int.mul_neg_of_neg_of_pos hlt hci
        omega
      · simp only [if_true] at hd
        rw [decide_eq_true_eq]
        rcases Int.lt_trichotomy tot 0 with g | g | g
        · exact g
        · exact absurd g hne
        · have := Int.mul_pos g hci
          omega
    have hpb : plN A ≤ 0 := hp
    have hf := rung_fin h0 hl (p := plN A) (by omega)
    have hr := rung_same (m := tot.natAbs) (n := lfN A) (p := b) (q := plN A) (B := -1074) (by omega) h0 (by omega) (by omega) (by omega) (by
      rw [show (b - (-1074)).toNat = (b + 1074).toNat by omega, show (plN A - (-1074)).toNat = (plN A + 1074).toNat by omega]
      exact habs)
    refine ⟨s, rungN double (lfN A) (plN A), ?_, hf, rung_val h0 hl (by omega), fun _ => rfl⟩
    simp only [Format.write]
    rw [if_neg hne, hsg, near64 s (by omega), hr, Nat.min_eq_left (Nat.le_of_lt hf)]
/-- Is what is left a half or more? -/
theorem tst05 {s t : Bool} {A R : Nat} (hp : plN A ≤ 0) (hR : R < 9218868437227405312) (hv : val64 R = lfN A * 2 ^ (plN A + 1074).toNat) (ht : lfN A ≠ 0 → t = s) :
    (FloatKind.f64.format.order (wd t R) 4602678819172646912 == some Ordering.gt || FloatKind.f64.format.order (wd t R) 4602678819172646912 == some Ordering.eq) = (!s && decide (2 ^ dgN A ≤ 2 * lfN A)) ∧
    (FloatKind.f64.format.order (wd t R) 13826050856027422720 == some Ordering.lt || FloatKind.f64.format.order (wd t R) 13826050856027422720 == some Ordering.eq) = (s && decide (2 ^ dgN A ≤ 2 * lfN A)) := by
  have o1 := order64 t false (A := R) (B := 4602678819172646912) hR (by decide)
  have o2 := order64 t true (A := R) (B := 4602678819172646912) hR (by decide)
  rw [show FloatKind.f64.format.order (wd t R) 4602678819172646912 = some (compare (sv t R) (sv false 4602678819172646912)) from o1, show FloatKind.f64.format.order (wd t R) 13826050856027422720 = some (compare (sv t R) (sv true 4602678819172646912)) from o2, cmp_ge_dec, cmp_le_dec]
  have hup := Nat.two_pow_pos (plN A + 1074).toNat
  have hu := u_split hp
  have hh := u_h
  have h0 := h_pos
  have hdp := Nat.two_pow_pos (dgN A)
  have key : hN ≤ val64 R ↔ 2 ^ dgN A ≤ 2 * lfN A := by
    rw [hv]
    constructor
    · intro h
      refine Nat.le_of_mul_le_mul_right (c := 2 ^ (plN A + 1074).toNat) ?_ hup
      rw [← hu, hh, Nat.mul_assoc]
      omega
    · intro h
      have := Nat.mul_le_mul_right (2 ^ (plN A + 1074).toNat) h
      rw [← hu, hh, Nat.mul_assoc] at this
      omega
  unfold sv
  rw [v05]
  by_cases hl : lfN A = 0
  · rw [hl, Nat.zero_mul] at hv
    rw [hv, hl]
    refine ⟨?_, ?_⟩
    · rw [show decide (2 ^ dgN A ≤ 2 * 0) = false by rw [decide_eq_false_iff_not]; omega, Bool.and_false, decide_eq_false_iff_not]
      cases t <;> simp <;> omega
    · rw [show decide (2 ^ dgN A ≤ 2 * 0) = false by rw [decide_eq_false_iff_not]; omega, Bool.and_false, decide_eq_false_iff_not]
      cases t <;> simp <;> omega
  · rw [ht hl]
    cases s
    · simp only [Bool.false_eq_true, if_false, if_true, Bool.not_false, Bool.true_and, Bool.false_and]
      refine ⟨decide_eq_decide.2 ?_, ?_⟩
      · rw [← key]; exact Int.ofNat_le
      · rw [decide_eq_false_iff_not]; omega
    · simp only [Bool.false_eq_true, if_false, if_true, Bool.not_true, Bool.true_and, Bool.false_and]
      refine ⟨?_, decide_eq_decide.2 ?_⟩
      · rw [decide_eq_false_iff_not]; omega
      · rw [← key]; omega
end Go.Proofs.YtjhaonfdapldcaaDoor
