/- Rounding to the nearest is monotone; so are the product with 2 and, the other way, the quotient. No condition; no program. -/
import Derived.Test.YtjhaonfdapldcaaDoorBase
namespace Go.Proofs.YtjhaonfdapldcaaDoor
open Go Ieee
set_option linter.unusedSimpArgs false
set_option linter.unusedVariables false

/-- V / U to the nearest whole number, to the even one between two. -/
def rte (V U : Nat) : Nat := V / U + (decide (U < 2 * (V % U)) || (U == 2 * (V % U) && V / U % 2 == 1)).toNat
theorem rte_le (V U : Nat) : V / U ≤ rte V U ∧ rte V U ≤ V / U + 1 := by
  unfold rte
  refine ⟨by omega, ?_⟩
  have : (decide (U < 2 * (V % U)) || (U == 2 * (V % U) && V / U % 2 == 1)).toNat ≤ 1 := by
    cases (decide (U < 2 * (V % U)) || (U == 2 * (V % U) && V / U % 2 == 1)) <;> decide
  omega
theorem rte_mono {V W U : Nat} (hU : 0 < U) (h : V ≤ W) : rte V U ≤ rte W U := by
  have hq : V / U ≤ W / U := Nat.div_le_div_right h
  by_cases he : V / U = W / U
  · have hr : V % U ≤ W % U := by
      have e1 := Nat.div_add_mod V U
      have e2 := Nat.div_add_mod W U
      rw [he] at e1
      omega
    unfold rte
    rw [he]
    generalize V % U = a at *
    generalize W % U = b at *
    generalize W / U = q at *
    by_cases h1 : U < 2 * a
    · have h2 : U < 2 * b := by omega
      simp [h1, h2]
    · by_cases h3 : U < 2 * b
      · simp [h3]
        exact Bool.toNat_le _
      · by_cases h4 : U = 2 * a
        · have h5 : U = 2 * b := by omega
          have h6 : a = b := by omega
          subst h6
          exact Nat.le_refl _
        · have h7 : (U == 2 * a) = false := by simpa using h4
          simp [h1, h7]
  · have h1 := rte_le V U
    have h2 := rte_le W U
    omega
theorem rte_scale (V U c : Nat) (hc : 0 < c) : rte (V * c) (U * c) = rte V U := by
  have h1 : V * c / (U * c) = V / U := Nat.mul_div_mul_right V U hc
  have h2 : V * c % (U * c) = V % U * c := Nat.mul_mod_mul_right c V U
  unfold rte
  rw [h1, h2, ← Nat.mul_assoc]
  have h3 : decide (U * c < 2 * (V % U) * c) = decide (U < 2 * (V % U)) := by
    rw [decide_eq_decide]
    exact Nat.mul_lt_mul_right hc
  have h4 : (U * c == 2 * (V % U) * c) = (U == 2 * (V % U)) := by
    rw [Bool.eq_iff_iff, beq_iff_eq, beq_iff_eq]
    exact Nat.mul_left_inj (by omega)
  rw [h3, h4]
/-- Two values strictly between the same two multiples of W are rounded alike, where half a unit is a multiple of W. -/
theorem rte_between {x y W c : Nat} (hW : 0 < W) (hc : 0 < c) (hq : x / W = y / W) (hx : x % W ≠ 0) (hy : y % W ≠ 0) : rte x (W * (2 * c)) = rte y (W * (2 * c)) := by
  have ex : x / (W * (2 * c)) = x / W / (2 * c) := (Nat.div_div_eq_div_mul x W (2 * c)).symm
  have ey : y / (W * (2 * c)) = y / W / (2 * c) := (Nat.div_div_eq_div_mul y W (2 * c)).symm
  have mx : x % (W * (2 * c)) = x % W + W * (x / W % (2 * c)) := Nat.mod_mul
  have my : y % (W * (2 * c)) = y % W + W * (y / W % (2 * c)) := Nat.mod_mul
  unfold rte
  rw [ex, ey, mx, my, hq]
  generalize y / W % (2 * c) = t
  have lx := Nat.mod_lt x hW
  have ly := Nat.mod_lt y hW
  have key : ∀ r, 0 < r → r < W → decide (W * (2 * c) < 2 * (r + W * t)) = decide (c ≤ t) ∧ (W * (2 * c) == 2 * (r + W * t)) = false := by
    intro r h0 h1
    have e1 : W * (2 * c) = 2 * (W * c) := by rw [Nat.mul_left_comm]
    rw [e1]
    by_cases h : c ≤ t
    · have h2 : W * c ≤ W * t := Nat.mul_le_mul_left W h
      refine ⟨by rw [decide_eq_decide]; constructor <;> intro <;> omega, ?_⟩
      rw [beq_eq_false_iff_ne]; omega
    · have h2 : W * (t + 1) ≤ W * c := Nat.mul_le_mul_left W (by omega)
      rw [Nat.mul_add] at h2
      refine ⟨by rw [decide_eq_decide]; constructor <;> intro <;> omega, ?_⟩
      rw [beq_eq_false_iff_ne]; omega
  obtain ⟨a1, a2⟩ := key (x % W) (by omega) lx
  obtain ⟨b1, b2⟩ := key (y % W) (by omega) ly
  rw [a1, a2, b1, b2]

theorem cut_even (neg : Bool) (n drop : Nat) : Toward.even.cut neg n drop = rte n (2 ^ drop) := by
  unfold Toward.cut rte
  simp only [Nat.one_shiftLeft]
  by_cases h : drop ≤ n.log2 + 2
  · rw [Nat.min_eq_left h]
  · rw [Nat.min_eq_right (by omega)]
    have h1 : n < 2 ^ (n.log2 + 1) := Nat.lt_log2_self
    have h2 : 2 ^ (n.log2 + 2) = 2 * 2 ^ (n.log2 + 1) := by rw [Nat.pow_succ 2 (n.log2 + 1), Nat.mul_comm]
    have h3 : 2 ^ (n.log2 + 2) ≤ 2 ^ drop := Nat.pow_le_pow_right (by decide) (by omega)
    have d1 : n / 2 ^ (n.log2 + 2) = 0 := Nat.div_eq_of_lt (by omega)
    have d2 : n / 2 ^ drop = 0 := Nat.div_eq_of_lt (by omega)
    have m1 : n % 2 ^ (n.log2 + 2) = n := Nat.mod_eq_of_lt (by omega)
    have m2 : n % 2 ^ drop = n := Nat.mod_eq_of_lt (by omega)
    rw [d1, d2, m1, m2]
    have a1 : decide (2 ^ (n.log2 + 2) < 2 * n) = false := by simp; omega
    have a2 : decide (2 ^ drop < 2 * n) = false := by simp; omega
    have a3 : (2 ^ (n.log2 + 2) == 2 * n) = false := by rw [beq_eq_false_iff_ne]; omega
    have a4 : (2 ^ drop == 2 * n) = false := by rw [beq_eq_false_iff_ne]; omega
    simp [a1, a2, a3, a4]
/-- The place of the last digit that is kept. -/
def lastPl (f : Format) (m : Nat) (p : Int) : Int := max (p + m.log2 - f.fractionBits) f.leastPlace
/-- The rung, ahead of the cut at infinity. -/
def rungN (f : Format) (m : Nat) (p : Int) : Nat := (lastPl f m p - f.leastPlace).toNat * 2 ^ f.fractionBits + rte (m * 2 ^ (p - lastPl f m p).toNat) (2 ^ (lastPl f m p - p).toNat)
theorem nearest_is (f : Format) (neg : Bool) {m : Nat} (hm : m ≠ 0) (p : Int) : f.nearest neg m p = f.word neg (min (rungN f m p) f.infRung) := by
  unfold Format.nearest
  rw [if_neg hm]
  simp only [cut_even, Nat.shiftLeft_eq]
  rfl
theorem rungN_base (f : Format) {m : Nat} {p B : Int} (h1 : B ≤ p) (h2 : B ≤ lastPl f m p) : rte (m * 2 ^ (p - lastPl f m p).toNat) (2 ^ (lastPl f m p - p).toNat) = rte (m * 2 ^ (p - B).toNat) (2 ^ (lastPl f m p - B).toNat) := by
  generalize lastPl f m p = l at *
  by_cases h : l ≤ p
  · have e1 : (l - p).toNat = 0 := by omega
    have e2 : (p - B).toNat = (p - l).toNat + (l - B).toNat := by omega
    rw [e1, e2, Nat.pow_add, ← Nat.mul_assoc]
    have := rte_scale (m * 2 ^ (p - l).toNat) 1 (2 ^ (l - B).toNat) (Nat.two_pow_pos _)
    rw [Nat.one_mul] at this
    rw [this]
  · have e1 : (p - l).toNat = 0 := by omega
    have e2 : (l - B).toNat = (l - p).toNat + (p - B).toNat := by omega
    rw [e1, e2, Nat.pow_add (2) ((l - p).toNat), Nat.pow_zero, Nat.mul_one]
    exact (rte_scale m (2 ^ (l - p).toNat) (2 ^ (p - B).toNat) (Nat.two_pow_pos _)).symm
theorem log2_shiftM {m : Nat} (hm : m ≠ 0) (d : Nat) : (m * 2 ^ d).log2 = m.log2 + d := by
  have h1 : 2 ^ m.log2 ≤ m := Nat.log2_self_le hm
  have h2 : m < 2 ^ (m.log2 + 1) := Nat.lt_log2_self
  have h3 : m * 2 ^ d ≠ 0 := Nat.mul_ne_zero hm (by have := Nat.two_pow_pos d; omega)
  rw [Nat.log2_eq_iff h3]
  refine ⟨?_, ?_⟩
  · rw [Nat.pow_add]; exact Nat.mul_le_mul_right _ h1
  · rw [show m.log2 + d + 1 = m.log2 + 1 + d by omega, Nat.pow_add]; exact Nat.mul_lt_mul_of_pos_right h2 (Nat.two_pow_pos _)
theorem log2_mono {a b : Nat} (ha : a ≠ 0) (h : a ≤ b) : a.log2 ≤ b.log2 := by
  have h1 : 2 ^ a.log2 ≤ a := Nat.log2_self_le ha
  exact (Nat.le_log2 (by omega)).2 (Nat.le_trans h1 h)
/-- Rounding to the nearest is monotone. -/
theorem rungN_mono (f : Format) {m1 m2 : Nat} {p1 p2 B : Int} (h1 : m1 ≠ 0) (h2 : m2 ≠ 0) (hB1 : B ≤ p1) (hB2 : B ≤ p2) (hB : B ≤ f.leastPlace) (h : m1 * 2 ^ (p1 - B).toNat ≤ m2 * 2 ^ (p2 - B).toNat) : rungN f m1 p1 ≤ rungN f m2 p2 := by
  have hl := log2_mono (Nat.mul_ne_zero h1 (by have := Nat.two_pow_pos (p1 - B).toNat; omega)) h
  rw [log2_shiftM h1, log2_shiftM h2] at hl
  have hl1 : f.leastPlace ≤ lastPl f m1 p1 := by unfold lastPl; omega
  have hl2 : f.leastPlace ≤ lastPl f m2 p2 := by unfold lastPl; omega
  have hle : lastPl f m1 p1 ≤ lastPl f m2 p2 := by unfold lastPl; omega
  unfold rungN
  rw [rungN_base f hB1 (by omega), rungN_base f hB2 (by omega)]
  by_cases he : lastPl f m1 p1 = lastPl f m2 p2
  · rw [he]
    exact Nat.add_le_add_left (rte_mono (Nat.two_pow_pos _) h) _
  · have ha : p1 + m1.log2 - f.fractionBits ≤ lastPl f m1 p1 := by unfold lastPl; omega
    have hb : lastPl f m2 p2 = p2 + m2.log2 - f.fractionBits := by unfold lastPl at he hle ⊢; unfold lastPl at hl1; omega
    have k1 := (rte_le (m1 * 2 ^ (p1 - B).toNat) (2 ^ (lastPl f m1 p1 - B).toNat)).2
    have k2 := (rte_le (m2 * 2 ^ (p2 - B).toNat) (2 ^ (lastPl f m2 p2 - B).toNat)).1
    generalize hL1 : lastPl f m1 p1 = L1 at *
    generalize hL2 : lastPl f m2 p2 = L2 at *
    have q1 : m1 * 2 ^ (p1 - B).toNat / 2 ^ (L1 - B).toNat < 2 ^ (f.fractionBits + 1) := by
      rw [Nat.div_lt_iff_lt_mul (Nat.two_pow_pos _), ← Nat.pow_add]
      have z1 : m1 < 2 ^ (m1.log2 + 1) := Nat.lt_log2_self
      refine Nat.lt_of_lt_of_le (Nat.mul_lt_mul_of_pos_right z1 (Nat.two_pow_pos _)) ?_
      rw [← Nat.pow_add]
      exact Nat.pow_le_pow_right (by decide) (by omega)
    have q2 : 2 ^ f.fractionBits ≤ m2 * 2 ^ (p2 - B).toNat / 2 ^ (L2 - B).toNat := by
      rw [Nat.le_div_iff_mul_le (Nat.two_pow_pos _), ← Nat.pow_add]
      have z2 : 2 ^ m2.log2 ≤ m2 := Nat.log2_self_le h2
      refine Nat.le_trans ?_ (Nat.mul_le_mul_right _ z2)
      rw [← Nat.pow_add]
      exact Nat.pow_le_pow_right (by decide) (by omega)
    rw [Nat.pow_succ] at q1
    have hd : (L1 - f.leastPlace).toNat + 1 ≤ (L2 - f.leastPlace).toNat := by omega
    have hm := Nat.mul_le_mul_right (2 ^ f.fractionBits) hd
    rw [Nat.add_mul, Nat.one_mul] at hm
    omega

/-- The quotient, and one digit more that tells whether anything is left over. -/
def stk (D n : Nat) : Nat := 2 * (D / n) + (D % n != 0).toNat
theorem stk_mono {a1 a2 n1 n2 : Nat} (h1 : 0 < n1) (h2 : 0 < n2) (h : a2 * n1 ≤ a1 * n2) : stk a2 n2 ≤ stk a1 n1 := by
  have e1 := Nat.div_add_mod a1 n1
  have e2 := Nat.div_add_mod a2 n2
  have l1 := Nat.mod_lt a1 h1
  have l2 := Nat.mod_lt a2 h2
  have hf : a2 / n2 ≤ a1 / n1 := by
    rw [Nat.le_div_iff_mul_le h1]
    have z : a2 / n2 * n2 ≤ a2 := Nat.div_mul_le_self _ _
    refine Nat.le_of_mul_le_mul_right ?_ h2
    calc a2 / n2 * n1 * n2 = a2 / n2 * n2 * n1 := by rw [Nat.mul_right_comm]
      _ ≤ a2 * n1 := Nat.mul_le_mul_right _ z
      _ ≤ a1 * n2 := h
  unfold stk
  by_cases he : a2 / n2 = a1 / n1
  · by_cases s1 : a1 % n1 = 0
    · have s2 : a2 % n2 = 0 := by
        by_cases s2 : a2 % n2 = 0
        · exact s2
        · exfalso
          rw [s1, Nat.add_zero] at e1
          have z1 : a1 * n2 = n1 * (a1 / n1) * n2 := by rw [e1]
          have z2 : a2 * n1 = n2 * (a1 / n1) * n1 + a2 % n2 * n1 := by rw [← he, ← Nat.add_mul, e2]
          have z3 : n1 * (a1 / n1) * n2 = n2 * (a1 / n1) * n1 := by rw [Nat.mul_comm n1, Nat.mul_right_comm, Nat.mul_comm (a1 / n1) n2]
          have z4 : 0 < a2 % n2 * n1 := Nat.mul_pos (by omega) h1
          omega
      simp [he, s1, s2]
    · have : (a1 % n1 != 0) = true := by simpa using s1
      rw [he, this]
      have := Bool.toNat_le (a2 % n2 != 0)
      simp only [Bool.toNat_true]
      omega
  · have := Bool.toNat_le (a2 % n2 != 0)
    omega
/-- More digits of a quotient change nothing of what is rounded. -/
theorem rungN_stk (f : Format) {D n : Nat} (hn : 0 < n) (hD : 2 ^ (f.fractionBits + 1) ≤ D / n) (p : Int) (d : Nat) : rungN f (stk D n) p = rungN f (stk (D * 2 ^ d) n) (p - d) := by
  have hd := Nat.two_pow_pos d
  have e1 := Nat.div_add_mod D n
  have l1 := Nat.mod_lt D hn
  -- the finer quotient lies between
  have g1 : D / n * 2 ^ d ≤ D * 2 ^ d / n := by
    rw [Nat.le_div_iff_mul_le hn, Nat.mul_right_comm]
    exact Nat.mul_le_mul_right _ (Nat.div_mul_le_self _ _)
  have g2 : D * 2 ^ d / n < (D / n + 1) * 2 ^ d := by
    rw [Nat.div_lt_iff_lt_mul hn, Nat.mul_right_comm]
    refine Nat.mul_lt_mul_of_pos_right ?_ hd
    rw [Nat.add_mul, Nat.one_mul, Nat.mul_comm (D / n) n]
    omega
  have hF : D / n ≠ 0 := by have := Nat.two_pow_pos (f.fractionBits + 1); omega
  have hlF : f.fractionBits + 1 ≤ (D / n).log2 := (Nat.le_log2 hF).2 hD
  have b1 := Bool.toNat_le (D % n != 0)
  have b2 := Bool.toNat_le (D * 2 ^ d % n != 0)
  have hq0 : stk D n ≠ 0 := by unfold stk; omega
  have hq1 : stk (D * 2 ^ d) n ≠ 0 := by
    unfold stk
    have : 0 < D / n * 2 ^ d := Nat.mul_pos (Nat.pos_of_ne_zero hF) hd
    omega
  have F1 : 2 ^ (D / n).log2 ≤ D / n := Nat.log2_self_le hF
  have F2 : D / n < 2 ^ ((D / n).log2 + 1) := Nat.lt_log2_self
  have L1 : (stk D n).log2 = (D / n).log2 + 1 := by
    rw [Nat.log2_eq_iff hq0]
    unfold stk
    rw [Nat.pow_succ 2 ((D / n).log2 + 1)]
    rw [Nat.pow_succ] at F2 ⊢
    omega
  have L2 : (stk (D * 2 ^ d) n).log2 = (D / n).log2 + 1 + d := by
    rw [Nat.log2_eq_iff hq1]
    have k1 : 2 ^ (D / n).log2 * 2 ^ d ≤ D / n * 2 ^ d := Nat.mul_le_mul_right _ F1
    have k2 : (D / n + 1) * 2 ^ d ≤ 2 ^ ((D / n).log2 + 1) * 2 ^ d := Nat.mul_le_mul_right _ F2
    have r1 : 2 ^ ((D / n).log2 + 1 + d) = 2 * (2 ^ (D / n).log2 * 2 ^ d) := by rw [Nat.pow_add, Nat.pow_succ, Nat.mul_comm _ 2, Nat.mul_assoc]
    have r2 : 2 ^ ((D / n).log2 + 1 + d + 1) = 2 * (2 ^ ((D / n).log2 + 1) * 2 ^ d) := by rw [Nat.pow_succ, Nat.pow_add, Nat.mul_comm]
    rw [r1, r2]
    unfold stk
    omega
  have hlast : lastPl f (stk (D * 2 ^ d) n) (p - d) = lastPl f (stk D n) p := by unfold lastPl; rw [L1, L2]; congr 1; omega
  have hge : p + 2 ≤ lastPl f (stk D n) p := by unfold lastPl; rw [L1]; omega
  unfold rungN
  rw [rungN_base f (B := p - d) (p := p) (by omega) (by omega), rungN_base f (B := p - d) (p := p - d) (by omega) (by rw [hlast]; omega), hlast]
  congr 1
  generalize lastPl f (stk D n) p = l at *
  have e2 : (p - (p - (d : Int))).toNat = d := by omega
  have e3 : (p - (d : Int) - (p - (d : Int))).toNat = 0 := by omega
  have e4 : (l - (p - (d : Int))).toNat = (d + 1) + (1 + (l - p - 2).toNat) := by omega
  rw [e2, e3, e4, Nat.pow_zero, Nat.mul_one, Nat.pow_add, Nat.pow_add 2 1, Nat.pow_one]
  by_cases hs : D % n = 0
  · have z1 : D * 2 ^ d / n = D / n * 2 ^ d := by
      rw [hs, Nat.add_zero] at e1
      rw [← e1, Nat.mul_div_cancel_left _ hn, Nat.mul_assoc, Nat.mul_div_cancel_left _ hn]
    have z2 : D * 2 ^ d % n = 0 := by
      rw [hs, Nat.add_zero] at e1
      rw [← e1, Nat.mul_assoc]
      exact Nat.mul_mod_right _ _
    have : stk (D * 2 ^ d) n = stk D n * 2 ^ d := by
      unfold stk
      rw [z1, z2, hs]
      simp [Nat.mul_assoc]
    rw [this]
  · have z0 : (D % n != 0) = true := by simpa using hs
    have hW : 2 ^ (d + 1) = 2 * 2 ^ d := by rw [Nat.pow_succ, Nat.mul_comm]
    have x0 : stk D n * 2 ^ d = 2 ^ (d + 1) * (D / n) + 2 ^ d := by
      unfold stk
      rw [z0, Bool.toNat_true, Nat.add_mul, Nat.one_mul, hW, Nat.mul_assoc, Nat.mul_assoc, Nat.mul_comm (D / n)]
    have xd : stk D n * 2 ^ d / 2 ^ (d + 1) = D / n := by
      rw [x0, Nat.mul_add_div (Nat.two_pow_pos _), Nat.div_eq_of_lt (show 2 ^ d < 2 ^ (d + 1) by rw [hW]; omega), Nat.add_zero]
    have xm : stk D n * 2 ^ d % 2 ^ (d + 1) ≠ 0 := by
      rw [x0, Nat.mul_add_mod, Nat.mod_eq_of_lt (show 2 ^ d < 2 ^ (d + 1) by rw [hW]; omega)]; exact Nat.ne_of_gt hd
    have yd : stk (D * 2 ^ d) n / 2 ^ (d + 1) = D / n := by
      rw [Nat.div_eq_iff (Nat.two_pow_pos _)]
      rw [hW]
      unfold stk
      rw [Nat.add_mul, Nat.one_mul] at g2
      have m1 : D / n * (2 * 2 ^ d) = 2 * (D / n * 2 ^ d) := by rw [Nat.mul_left_comm]
      omega
    have ym : stk (D * 2 ^ d) n % 2 ^ (d + 1) ≠ 0 := by
      intro h0
      have w1 := Nat.div_add_mod (stk (D * 2 ^ d) n) (2 ^ (d + 1))
      rw [h0, yd, Nat.add_zero, hW, Nat.mul_assoc] at w1
      unfold stk at w1
      have m1 : 2 ^ d * (D / n) = D / n * 2 ^ d := Nat.mul_comm _ _
      have w2 : D * 2 ^ d % n = 0 ∧ D * 2 ^ d / n = D / n * 2 ^ d := by
        cases hb : (D * 2 ^ d % n != 0)
        · rw [hb] at w1
          simp only [Bool.toNat_false] at w1
          exact ⟨by simpa using hb, by omega⟩
        · rw [hb] at w1
          simp only [Bool.toNat_true] at w1
          omega
      have w3 := Nat.div_add_mod (D * 2 ^ d) n
      rw [w2.1, w2.2, Nat.add_zero, ← Nat.mul_assoc] at w3
      have w4 := Nat.eq_of_mul_eq_mul_right hd w3
      omega
    exact rte_between (Nat.two_pow_pos _) (Nat.two_pow_pos _) (xd.trans yd.symm) xm ym
end Go.Proofs.YtjhaonfdapldcaaDoor
