/- Numbers in double precision as words: what they stand for, how they stand to each other, whole numbers among them. No condition; no program. -/
import Derived.Test.YtjhaonfdapldcaaDoorMono
namespace Go.Proofs.YtjhaonfdapldcaaDoor
open Go Ieee
set_option linter.unusedSimpArgs false
set_option linter.unusedVariables false

theorem lp64 : double.leastPlace = -1074 := by decide
theorem inf64 : double.infRung = 9218868437227405312 := by decide
theorem bin64 : double.binade = 4503599627370496 := by decide
theorem sw64 : double.signWeight = 9223372036854775808 := by decide
theorem fb64 : double.fractionBits = 52 := rfl
/-- The value of a rung, in units of the last place. -/
def val64 (R : Nat) : Nat := if R < 4503599627370496 then R else (4503599627370496 + R % 4503599627370496) * 2 ^ (R / 4503599627370496 - 1)
theorem val64_lt {b c : Nat} (h : b < c) : val64 b < val64 c := by
  unfold val64
  have pc := Nat.two_pow_pos (c / 4503599627370496 - 1)
  by_cases hb : b < 4503599627370496
  · rw [if_pos hb]
    by_cases hc : c < 4503599627370496
    · rw [if_pos hc]; exact h
    · rw [if_neg hc]
      have := Nat.mul_le_mul_left (4503599627370496 + c % 4503599627370496) pc
      omega
  · have hc : ¬ c < 4503599627370496 := by omega
    rw [if_neg hb, if_neg hc]
    have he : b / 4503599627370496 ≤ c / 4503599627370496 := Nat.div_le_div_right (Nat.le_of_lt h)
    have pb := Nat.two_pow_pos (b / 4503599627370496 - 1)
    by_cases hq : b / 4503599627370496 = c / 4503599627370496
    · rw [← hq]
      exact Nat.mul_lt_mul_of_pos_right (by omega) pb
    · have h1 : (4503599627370496 + b % 4503599627370496) * 2 ^ (b / 4503599627370496 - 1) < 9007199254740992 * 2 ^ (b / 4503599627370496 - 1) := Nat.mul_lt_mul_of_pos_right (by omega) pb
      have h2 : 9007199254740992 * 2 ^ (b / 4503599627370496 - 1) = 4503599627370496 * 2 ^ (b / 4503599627370496) := by
        rw [show (9007199254740992 : Nat) = 4503599627370496 * 2 by rfl, Nat.mul_assoc, Nat.mul_comm 2, ← Nat.pow_succ]
        congr 2; omega
      have h3 : 4503599627370496 * 2 ^ (b / 4503599627370496) ≤ 4503599627370496 * 2 ^ (c / 4503599627370496 - 1) := Nat.mul_le_mul_left _ (Nat.pow_le_pow_right (by decide) (by omega))
      have h4 : 4503599627370496 * 2 ^ (c / 4503599627370496 - 1) ≤ (4503599627370496 + c % 4503599627370496) * 2 ^ (c / 4503599627370496 - 1) := Nat.mul_le_mul_right _ (by omega)
      omega
theorem val64_le {b c : Nat} (h : b ≤ c) : val64 b ≤ val64 c := by
  rcases Nat.lt_or_ge b c with e | e
  · exact Nat.le_of_lt (val64_lt e)
  · rw [show b = c by omega]; exact Nat.le_refl _
/-- The word of a sign and a rung. -/
def wd (s : Bool) (R : Nat) : Nat := if s then 9223372036854775808 + R else R
theorem wd_word (s : Bool) (R : Nat) : double.word s R = wd s R := by unfold Format.word wd; rw [sw64]
/-- The parts of a rung that is finite: a mantissa, and how many of its digits stand behind the point. -/
def mtN (R : Nat) : Nat := if R < 4503599627370496 then R else 4503599627370496 + R % 4503599627370496
def plN (R : Nat) : Int := if R < 4503599627370496 then -1074 else (R / 4503599627370496 : Nat) - 1075
theorem read64 (s : Bool) {R : Nat} (h : R < 9218868437227405312) : double.read (wd s R) = .number s (mtN R) (plN R) := by
  have h1 : wd s R / 9223372036854775808 % 2 = s.toNat := by unfold wd; cases s <;> simp <;> omega
  have h2 : wd s R % 9223372036854775808 = R := by unfold wd; split <;> omega
  have h3 : (s.toNat == 1) = s := by cases s <;> rfl
  unfold Format.read
  simp only [sw64, bin64, inf64, lp64, h1, h2, h3]
  unfold mtN plN
  by_cases hb : R < 4503599627370496
  · simp only [if_pos hb]
  · simp only [if_neg hb, if_pos h]
    congr 1
    omega
theorem mt_lt (R : Nat) : mtN R < 9007199254740992 := by unfold mtN; split <;> omega
theorem pl_ge (R : Nat) : -1074 ≤ plN R := by unfold plN; split <;> omega
theorem mt_val (R : Nat) : mtN R * 2 ^ (plN R + 1074).toNat = val64 R := by
  unfold mtN plN val64
  by_cases hb : R < 4503599627370496
  · simp [if_pos hb]
  · simp only [if_neg hb]
    congr 2
    omega
theorem signed_val (s : Bool) (m k : Nat) : signed s m k = if s then -((m * 2 ^ k : Nat) : Int) else ((m * 2 ^ k : Nat) : Int) := by
  unfold signed; rw [Nat.shiftLeft_eq]
/-- The value with its sign. -/
def sv (s : Bool) (R : Nat) : Int := if s then -((val64 R : Nat) : Int) else ((val64 R : Nat) : Int)
theorem cmp_mul {a b : Int} {c : Nat} (hc : 0 < c) : compare (a * c) (b * c) = compare a b := by
  have hci : (0 : Int) < c := by omega
  rcases Int.lt_trichotomy a b with h | h | h
  · have := Int.mul_lt_mul_of_pos_right h hci
    simp only [compare, compareOfLessAndEq]; rw [if_pos h, if_pos this]
  · subst h; simp [compare, compareOfLessAndEq]
  · have := Int.mul_lt_mul_of_pos_right h hci
    simp only [compare, compareOfLessAndEq]
    rw [if_neg (show ¬ a < b by omega), if_neg (show ¬ a = b by omega), if_neg (show ¬ a * c < b * c by omega), if_neg (show ¬ a * c = b * c by omega)]
theorem signed_up (s : Bool) (R : Nat) (B : Int) (h1 : B ≤ plN R) (h2 : -1074 ≤ B) : signed s (mtN R) (plN R - B).toNat * ((2 ^ (B + 1074).toNat : Nat) : Int) = sv s R := by
  rw [signed_val]
  unfold sv
  have e : mtN R * 2 ^ (plN R - B).toNat * 2 ^ (B + 1074).toNat = val64 R := by
    rw [Nat.mul_assoc, ← Nat.pow_add, ← mt_val R]
    congr 2
    omega
  rw [← e]
  split
  · rw [Int.neg_mul]; push_cast; rfl
  · push_cast; rfl
theorem order64 (s t : Bool) {A B : Nat} (ha : A < 9218868437227405312) (hb : B < 9218868437227405312) : double.order (wd s A) (wd t B) = some (compare (sv s A) (sv t B)) := by
  unfold Format.order
  rw [read64 s ha, read64 t hb]
  simp only [Datum.order]
  have pa := pl_ge A
  have pb := pl_ge B
  rw [← cmp_mul (c := 2 ^ (min (plN A) (plN B) + 1074).toNat) (Nat.two_pow_pos _), signed_up s A _ (by omega) (by omega), signed_up t B _ (by omega) (by omega)]
theorem near64 (s : Bool) {m : Nat} (hm : m ≠ 0) (p : Int) : double.nearest s m p = wd s (min (rungN double m p) 9218868437227405312) := by
  rw [nearest_is double s hm, wd_word, inf64]
theorem near0 (s : Bool) (p : Int) : double.nearest s 0 p = wd s 0 := by
  unfold Format.nearest
  rw [if_pos rfl, wd_word]
theorem log2_53 {m : Nat} (h0 : m ≠ 0) (h : m < 2 ^ 53) : m.log2 ≤ 52 := by
  have := (Nat.log2_lt h0).2 h
  omega
/-- A number that can be written exactly is. -/
theorem rung_val {m : Nat} {p : Int} (h0 : m ≠ 0) (h : m < 9007199254740992) (hp : -1074 ≤ p) : val64 (rungN double m p) = m * 2 ^ (p + 1074).toNat := by
  have hl := log2_53 h0 (by rw [show (2 : Nat) ^ 53 = 9007199254740992 by rfl]; exact h)
  have h1 : 2 ^ m.log2 ≤ m := Nat.log2_self_le h0
  have h2 : m < 2 ^ (m.log2 + 1) := Nat.lt_log2_self
  have hle : lastPl double m p ≤ p := by unfold lastPl; rw [fb64, lp64]; omega
  have hge : -1074 ≤ lastPl double m p := by unfold lastPl; rw [fb64, lp64]; omega
  have hr : rte (m * 2 ^ (p - lastPl double m p).toNat) (2 ^ (lastPl double m p - p).toNat) = m * 2 ^ (p - lastPl double m p).toNat := by
    have : (lastPl double m p - p).toNat = 0 := by omega
    rw [this, Nat.pow_zero]
    unfold rte
    simp [Nat.mod_one, Nat.div_one]
  unfold rungN
  rw [hr, lp64, fb64]
  obtain ⟨d, hd⟩ : ∃ d : Nat, p - lastPl double m p = d := ⟨(p - lastPl double m p).toNat, by omega⟩
  obtain ⟨e, he⟩ : ∃ e : Nat, lastPl double m p - (-1074) = e := ⟨(lastPl double m p - (-1074)).toNat, by omega⟩
  have hpe : (p + 1074).toNat = d + e := by omega
  rw [hd, he, Int.toNat_natCast, Int.toNat_natCast, hpe, show (2 : Nat) ^ 52 = 4503599627370496 by rfl]
  have hup : m * 2 ^ d < 9007199254740992 := by
    have hd2 : m.log2 + d ≤ 52 := by
      unfold lastPl at hd he
      rw [fb64, lp64] at hd he
      omega
    have := Nat.mul_lt_mul_of_pos_right h2 (Nat.two_pow_pos d)
    rw [← Nat.pow_add] at this
    have h3 : 2 ^ (m.log2 + 1 + d) ≤ 2 ^ 53 := Nat.pow_le_pow_right (by decide) (by omega)
    rw [show (2 : Nat) ^ 53 = 9007199254740992 by rfl] at h3
    omega
  have hlo : e ≠ 0 → 4503599627370496 ≤ m * 2 ^ d := by
    intro hne
    have hd2 : m.log2 + d = 52 := by
      unfold lastPl at hd he
      rw [fb64, lp64] at hd he
      omega
    have := Nat.mul_le_mul_right (2 ^ d) h1
    rw [← Nat.pow_add, hd2, show (2 : Nat) ^ 52 = 4503599627370496 by rfl] at this
    exact this
  rw [Nat.pow_add, ← Nat.mul_assoc]
  generalize m * 2 ^ d = M at *
  unfold val64
  by_cases he0 : e = 0
  · subst he0
    rw [Nat.zero_mul, Nat.zero_add, Nat.pow_zero, Nat.mul_one]
    by_cases hM : M < 4503599627370496
    · rw [if_pos hM]
    · rw [if_neg hM]
      have e1 : M / 4503599627370496 = 1 := by omega
      have e2 : 4503599627370496 + M % 4503599627370496 = M := by omega
      rw [e1, e2]; simp
  · have hl2 := hlo he0
    rw [if_neg (by omega)]
    have e1 : (e * 4503599627370496 + M) / 4503599627370496 = e + 1 := by omega
    have e2 : 4503599627370496 + (e * 4503599627370496 + M) % 4503599627370496 = M := by omega
    rw [e1, e2, Nat.add_sub_cancel]
theorem rung_same {m n : Nat} {p q B : Int} (hm : m ≠ 0) (hn : n ≠ 0) (h1 : B ≤ p) (h2 : B ≤ q) (hB : B ≤ -1074) (h : m * 2 ^ (p - B).toNat = n * 2 ^ (q - B).toNat) : rungN double m p = rungN double n q :=
  Nat.le_antisymm (rungN_mono double hm hn h1 h2 (by rw [lp64]; exact hB) (by omega)) (rungN_mono double hn hm h2 h1 (by rw [lp64]; exact hB) (by omega))
theorem cut_zero (s : Bool) (n d : Nat) : Toward.zero.cut s n d = n / 2 ^ d := by
  unfold Toward.cut
  simp only [Nat.one_shiftLeft, Bool.toNat_false, Nat.add_zero]
  by_cases h : d ≤ n.log2 + 2
  · rw [Nat.min_eq_left h]
  · rw [Nat.min_eq_right (by omega)]
    have h1 : n < 2 ^ (n.log2 + 1) := Nat.lt_log2_self
    have h2 : 2 ^ (n.log2 + 1) ≤ 2 ^ (n.log2 + 2) := Nat.pow_le_pow_right (by decide) (by omega)
    have h3 : 2 ^ (n.log2 + 2) ≤ 2 ^ d := Nat.pow_le_pow_right (by decide) (by omega)
    rw [Nat.div_eq_of_lt (by omega), Nat.div_eq_of_lt (by omega)]
/-- How many digits stand behind the point. -/
def dgN (R : Nat) : Nat := (-(plN R)).toNat
/-- The whole part, and what is left. -/
def whN (R : Nat) : Nat := mtN R / 2 ^ dgN R
def lfN (R : Nat) : Nat := mtN R % 2 ^ dgN R
theorem toInt64 (s : Bool) {R : Nat} (h : R < 9218868437227405312) (hs : plN R ≤ 0) : (double.read (wd s R)).toInt .zero = some (if s then -((whN R : Nat) : Int) else ((whN R : Nat) : Int)) := by
  rw [read64 s h]
  unfold Datum.toInt Datum.integral
  simp only [cut_zero, signed_val, Nat.pow_zero, Nat.mul_one]
  have e : (plN R).toNat = 0 := by omega
  rw [e, Nat.shiftLeft_zero]
  rfl
theorem val_split (R : Nat) (hs : plN R ≤ 0) : val64 R = (whN R * 2 ^ dgN R + lfN R) * 2 ^ (plN R + 1074).toNat := by
  rw [← mt_val R]
  unfold whN lfN
  rw [Nat.mul_comm (mtN R / 2 ^ dgN R), Nat.div_add_mod]
end Go.Proofs.YtjhaonfdapldcaaDoor
