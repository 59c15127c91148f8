/- The nearest whole number, made out of the bits of a number; kept between bounds. No condition; no program. -/
import Derived.Test.YtjhaonfdapldcaaDoorRnd
namespace Go.Proofs.YtjhaonfdapldcaaDoor
open Go Go.RowKit Ieee
set_option linter.unusedSimpArgs false
set_option linter.unusedVariables false

theorem p52 : (2 : Nat) ^ 52 = 4503599627370496 := by rfl
theorem p53 : (2 : Nat) ^ 53 = 9007199254740992 := by rfl
theorem q_small {A : Nat} (h : 54 ≤ dgN A) : qN A = 0 := by
  have hm := mt_lt A
  have h2 : (2 : Nat) ^ 54 ≤ 2 ^ dgN A := Nat.pow_le_pow_right (by decide) h
  rw [show (2 : Nat) ^ 54 = 18014398509481984 by rfl] at h2
  unfold qN whN lfN
  rw [Nat.div_eq_of_lt (by omega), Nat.mod_eq_of_lt (by omega), if_neg (by omega)]
theorem dg_is {A : Nat} (h : 4503599627370496 ≤ A) (h2 : A / 4503599627370496 ≤ 1075) : dgN A = 1075 - A / 4503599627370496 ∧ mtN A = 4503599627370496 + A % 4503599627370496 ∧ plN A = (A / 4503599627370496 : Nat) - 1075 := by
  unfold dgN mtN plN
  rw [if_neg (by omega), if_neg (by omega)]
  refine ⟨by omega, rfl, rfl⟩
theorem q_none {A : Nat} (h : A / 4503599627370496 < 1022) : qN A = 0 := by
  by_cases hb : A < 4503599627370496
  · refine q_small ?_
    unfold dgN plN
    rw [if_pos hb]
    decide
  · refine q_small ?_
    rw [(dg_is (by omega) (by omega)).1]
    omega
theorem q_one {A : Nat} (h : A / 4503599627370496 = 1022) : qN A = 1 := by
  obtain ⟨h1, h2, _⟩ := dg_is (A := A) (by omega) (by omega)
  have hm := mt_lt A
  have h3 : dgN A = 53 := by omega
  unfold qN whN lfN
  rw [h3, p53, Nat.div_eq_of_lt hm, Nat.mod_eq_of_lt hm, if_pos (by omega)]
theorem q_half {A F : Nat} (hF : dgN A = F + 1) : qN A = (mtN A + 2 ^ F) / 2 ^ (F + 1) := by
  have hP := Nat.two_pow_pos F
  unfold qN whN lfN
  rw [hF, Nat.pow_succ, Nat.mul_comm (2 ^ F) 2]
  generalize 2 ^ F = P at *
  generalize mtN A = m
  have e := Nat.div_add_mod m (2 * P)
  have l := Nat.mod_lt m (show 0 < 2 * P by omega)
  generalize m / (2 * P) = x at *
  generalize m % (2 * P) = y at *
  rw [← e]
  have : (2 * P * x + y + P) / (2 * P) = x + (y + P) / (2 * P) := by
    rw [Nat.add_assoc, Nat.mul_add_div (by omega)]
  rw [this]
  congr 1
  by_cases h : 2 * P ≤ 2 * y
  · rw [if_pos h]
    have : (y + P) / (2 * P) = 1 := by
      rw [Nat.div_eq_iff (by omega)]
      omega
    rw [this]
  · rw [if_neg h, Nat.div_eq_of_lt (by omega)]
theorem val64_inj {a b : Nat} (h : val64 a = val64 b) : a = b := by
  rcases Nat.lt_trichotomy a b with e | e | e
  · have := val64_lt e; omega
  · exact e
  · have := val64_lt e; omega
/-- The bits that the program makes. -/
theorem bits_round {A F : Nat} (h1 : 1023 ≤ A / 4503599627370496) (h2 : A / 4503599627370496 ≤ 1050) (hF : A / 4503599627370496 + F = 1074) :
    qN A ≠ 0 ∧ qN A < 9007199254740992 ∧ (A + 2 ^ F) / 2 ^ (F + 1) * 2 ^ (F + 1) = rungN double (qN A) 0 := by
  obtain ⟨d1, d2, d3⟩ := dg_is (A := A) (by omega) (by omega)
  have hd : dgN A = F + 1 := by omega
  have hq := q_half hd
  have hm := mt_lt A
  obtain ⟨C, hC⟩ : ∃ C, C = 2 ^ (51 - F) := ⟨_, rfl⟩
  have hC0 : 0 < C := by rw [hC]; exact Nat.two_pow_pos _
  have hP := Nat.two_pow_pos F
  have hPC : 4503599627370496 = 2 ^ (F + 1) * C := by
    rw [hC, ← Nat.pow_add, show F + 1 + (51 - F) = 52 by omega]
  have hE := Nat.div_add_mod A 4503599627370496
  have hl := Nat.mod_lt A (show 0 < 4503599627370496 by decide)
  have hu : uN = 2 ^ (F + 1) * 2 ^ (A / 4503599627370496 - 1) := by
    rw [u_split (A := A) (by omega), hd]
    congr 2
    omega
  generalize he : A / 4503599627370496 = e at *
  generalize hfr : A % 4503599627370496 = fr at *
  rw [Nat.pow_succ, Nat.mul_comm (2 ^ F) 2] at *
  generalize 2 ^ F = P at *
  rw [d2] at hq hm
  -- the quotient
  have q1 : C ≤ qN A := by
    rw [hq, Nat.le_div_iff_mul_le (by omega), Nat.mul_comm C, ← hPC]
    omega
  have q2 : qN A ≤ 2 * C := by
    rw [hq]
    refine Nat.le_of_lt_succ ((Nat.div_lt_iff_lt_mul (by omega)).2 ?_)
    rw [Nat.succ_eq_add_one, Nat.add_mul, Nat.one_mul, Nat.mul_assoc, Nat.mul_comm C, ← hPC]
    omega
  have hC2 : 2 * C ≤ 4503599627370496 := by
    rw [hPC]
    exact Nat.mul_le_mul_right C (by omega)
  refine ⟨by omega, by omega, ?_⟩
  have hAP : (A + P) / (2 * P) = (e - 1) * C + qN A := by
    rw [hq]
    have : A + P = 2 * P * ((e - 1) * C) + (4503599627370496 + fr + P) := by
      have h5 : 2 * P * ((e - 1) * C) = 4503599627370496 * (e - 1) := by
        rw [hPC, Nat.mul_comm (e - 1) C, ← Nat.mul_assoc]
      rw [h5]
      omega
    rw [this, Nat.mul_add_div (by omega)]
  rw [hAP]
  refine val64_inj ?_
  rw [rung_int (by omega) (by omega), hu]
  have hR : ((e - 1) * C + qN A) * (2 * P) = (e - 1) * 4503599627370496 + qN A * (2 * P) := by
    rw [Nat.add_mul, Nat.mul_assoc (e - 1), Nat.mul_comm C, ← hPC]
  rw [hR, show qN A * (2 * P * 2 ^ (e - 1)) = qN A * (2 * P) * 2 ^ (e - 1) from (Nat.mul_assoc (qN A) (2 * P) (2 ^ (e - 1))).symm]
  have y1 : 4503599627370496 ≤ qN A * (2 * P) := by
    have := Nat.mul_le_mul_right (2 * P) q1
    rw [Nat.mul_comm C, ← hPC] at this
    exact this
  have y2 : qN A * (2 * P) ≤ 9007199254740992 := by
    have := Nat.mul_le_mul_right (2 * P) q2
    rw [Nat.mul_assoc, Nat.mul_comm C, ← hPC] at this
    omega
  generalize qN A * (2 * P) = Y at *
  unfold val64
  rw [if_neg (by omega)]
  rcases Nat.lt_or_ge Y 9007199254740992 with g | g
  · have e1 : ((e - 1) * 4503599627370496 + Y) / 4503599627370496 = e := by omega
    have e2 : 4503599627370496 + ((e - 1) * 4503599627370496 + Y) % 4503599627370496 = Y := by omega
    rw [e1, e2]
  · have hY : Y = 4503599627370496 * 2 := by omega
    have e1 : ((e - 1) * 4503599627370496 + Y) / 4503599627370496 = e - 1 + 2 := by omega
    have e2 : 4503599627370496 + ((e - 1) * 4503599627370496 + Y) % 4503599627370496 = 4503599627370496 := by omega
    rw [e1, e2, hY, show e - 1 + 2 - 1 = e - 1 + 1 by omega, Nat.pow_succ, Nat.mul_assoc, Nat.mul_comm 2]
/-- A whole number as a rung. -/
def rdn (n : Nat) : Nat := if n = 0 then 0 else rungN double n 0
theorem rdn_val {n : Nat} (h : n < 9007199254740992) : val64 (rdn n) = n * uN ∧ rdn n < 9218868437227405312 := by
  unfold rdn
  split
  · rename_i h0; subst h0; rw [Nat.zero_mul]; exact ⟨rfl, by decide⟩
  · rename_i h0; exact ⟨rung_int h0 h, rung_fin h0 h (by omega)⟩
theorem rdn67 : rdn 32767 = 4674736138332667904 := by unfold rdn; rw [if_neg (by decide), w67]
theorem rdn68 : rdn 32768 = 4674736413210574848 := by unfold rdn; rw [if_neg (by decide), w68]
theorem sv_rdn {s : Bool} {n : Nat} (h : n < 9007199254740992) : sv s (rdn n) = if s then -((n * uN : Nat) : Int) else ((n * uN : Nat) : Int) := by unfold sv; rw [(rdn_val h).1]
theorem dec_neg (s : Bool) {R : Nat} (h : R < 9218868437227405312) : (FloatKind.f64.decode (wd s R)).neg = s := by
  show (double.read (wd s R)).neg = s
  rw [read64 s h]; rfl
theorem u_pos : 0 < uN := by have := h_pos; have := u_h; omega
def mxW (o : Ordering) (x y : Nat) : Nat := match o with | .lt => y | .gt => x | .eq => if (FloatKind.f64.decode x).neg then y else x
def mnW (o : Ordering) (x y : Nat) : Nat := match o with | .lt => x | .gt => y | .eq => if (FloatKind.f64.decode x).neg then x else y
theorem max_of {P : Program} (w : World) (ts : Array TypeId) (t : TypeId) {x y : Nat} {o : Ordering} (ho : FloatKind.f64.format.order x y = some o) : (Builtin.max_ ts t #[.float .f64 x, .float .f64 y]).run P w = .ok (.float .f64 (mxW o x y)) w := by
  unfold Builtin.max_ mxW
  simp only [List.foldlM, Builtin.max2, ho]
  cases o <;> simp [go_sem]
theorem min_of {P : Program} (w : World) (ts : Array TypeId) (t : TypeId) {x y : Nat} {o : Ordering} (ho : FloatKind.f64.format.order x y = some o) : (Builtin.min_ ts t #[.float .f64 x, .float .f64 y]).run P w = .ok (.float .f64 (mnW o x y)) w := by
  unfold Builtin.min_ mnW
  simp only [List.foldlM, Builtin.min2, ho]
  cases o <;> simp [go_sem]
theorem cmpI_lt' {a b : Int} (h : a < b) : compare a b = Ordering.lt := by simp [compare, compareOfLessAndEq, h]
theorem cmpI_gt' {a b : Int} (h : b < a) : compare a b = Ordering.gt := by
  simp only [compare, compareOfLessAndEq]
  rw [if_neg (by omega), if_neg (by omega)]
theorem cmpI_eq' (a : Int) : compare a a = Ordering.eq := by simp [compare, compareOfLessAndEq]
theorem max_rdn {P : Program} (w : World) (ts : Array TypeId) (t : TypeId) (s : Bool) {n : Nat} (h : n < 9007199254740992) : (Builtin.max_ ts t #[.float .f64 (wd s (rdn n)), .float .f64 13898108450065350656]).run P w = .ok (.float .f64 (wd s (rdn (if s then min n 32768 else n)))) w := by
  have ho := order64 s true (rdn_val h).2 (rdn_val (n := 32768) (by decide)).2
  rw [sv_rdn h, sv_rdn (by decide), rdn68] at ho
  have ho2 : FloatKind.f64.format.order (wd s (rdn n)) 13898108450065350656 = _ := ho
  have hneg := dec_neg s (rdn_val h).2
  have hu := u_pos
  have e : wd true (rdn 32768) = 13898108450065350656 := by rw [rdn68]; rfl
  cases s
  · simp only [Bool.false_eq_true, if_false, if_true] at ho2 ⊢
    rw [cmpI_gt' (by omega)] at ho2
    rw [max_of w ts t ho2]; rfl
  · simp only [if_true] at ho2 ⊢
    rcases Nat.lt_trichotomy n 32768 with g | g | g
    · have hm := Nat.mul_lt_mul_of_pos_right g hu
      rw [cmpI_gt' (by omega)] at ho2
      rw [max_of w ts t ho2, Nat.min_eq_left (by omega)]; rfl
    · subst g
      rw [cmpI_eq'] at ho2
      rw [max_of w ts t ho2, Nat.min_self]
      unfold mxW
      simp only [hneg, if_true]
      rw [e]
    · have hm := Nat.mul_lt_mul_of_pos_right g hu
      rw [cmpI_lt' (by omega)] at ho2
      rw [max_of w ts t ho2, Nat.min_eq_right (by omega), e]; rfl
theorem min_rdn {P : Program} (w : World) (ts : Array TypeId) (t : TypeId) (s : Bool) {n : Nat} (h : n < 9007199254740992) : (Builtin.min_ ts t #[.float .f64 (wd s (rdn n)), .float .f64 4674736138332667904]).run P w = .ok (.float .f64 (wd s (rdn (if s then n else min n 32767)))) w := by
  have ho := order64 s false (rdn_val h).2 (rdn_val (n := 32767) (by decide)).2
  rw [sv_rdn h, sv_rdn (by decide), rdn67] at ho
  have ho2 : FloatKind.f64.format.order (wd s (rdn n)) 4674736138332667904 = _ := ho
  have hneg := dec_neg s (rdn_val h).2
  have hu := u_pos
  have e : wd false (rdn 32767) = 4674736138332667904 := by rw [rdn67]; rfl
  cases s
  · simp only [Bool.false_eq_true, if_false, if_true] at ho2 ⊢
    rcases Nat.lt_trichotomy n 32767 with g | g | g
    · have hm := Nat.mul_lt_mul_of_pos_right g hu
      rw [cmpI_lt' (by omega)] at ho2
      rw [min_of w ts t ho2, Nat.min_eq_left (by omega)]; rfl
    · subst g
      rw [cmpI_eq'] at ho2
      rw [min_of w ts t ho2, Nat.min_self]
      unfold mnW
      simp only [hneg, Bool.false_eq_true, if_false]
      rw [e]
    · have hm := Nat.mul_lt_mul_of_pos_right g hu
      rw [cmpI_gt' (by omega)] at ho2
      rw [min_of w ts t ho2, Nat.min_eq_right (by omega), e]; rfl
  · simp only [Bool.false_eq_true, if_false, if_true] at ho2 ⊢
    rw [cmpI_lt' (by omega)] at ho2
    rw [min_of w ts t ho2]; rfl
/-- A whole number that is not great, as an integer. -/
theorem toInt_rdn (s : Bool) {n : Nat} (h : n ≤ 32768) : (double.read (wd s (rdn n))).toInt .zero = some (if s then -((n : Nat) : Int) else ((n : Nat) : Int)) := by
  obtain ⟨hv, hf⟩ := rdn_val (n := n) (by omega)
  have hp : plN (rdn n) ≤ 0 := by
    have hle : rdn n ≤ 4674736413210574848 := by
      rcases Nat.lt_or_ge 4674736413210574848 (rdn n) with g | g
      · exfalso
        have h1 := val64_lt g
        rw [hv, v68] at h1
        have := Nat.mul_le_mul_right uN h
        omega
      · exact g
    unfold plN
    split <;> omega
  rw [toInt64 s hf hp]
  have hw : whN (rdn n) = n := by
    have h1 := (ge_whole hp n).1 (by omega)
    have h2 : ¬ n + 1 ≤ whN (rdn n) := by
      rw [← ge_whole hp (n + 1), hv, Nat.add_mul, Nat.one_mul]
      have := u_pos
      omega
    omega
  rw [hw]
end Go.Proofs.YtjhaonfdapldcaaDoor
