/- The argument of a well and its drawdown as values: that nothing there is a NaN. No condition but that what comes in is valid. -/
import Derived.Test.YtdhgehmnjoclaaaWell
namespace Go.Proofs.Ytdhgehmnjoclaaa
open Go Go.RowKit Ieee
set_option linter.unusedSimpArgs false
set_option linter.unusedVariables false

/-- A whole number that is not too great, as a float. -/
theorem int_norm (n : Nat) (h1 : 1 ≤ n) (h2 : n < 131072) : 127 * 8388608 ≤ floatOfInt .f32 (n : Int) ∧ floatOfInt .f32 (n : Int) ≤ 144 * 8388608 := by
  have e : floatOfInt .f32 (n : Int) = single.nearest false n 0 := by
    show single.nearest _ _ _ = _
    have : decide ((n : Int) < 0) = false := by simp
    first | rfl | (rw [this]; rfl) | simp [this]
  rw [e]
  have hl : n.log2 ≤ 16 := by
    have := (Nat.log2_lt (k := 17) (by omega : n ≠ 0)).2 (by omega)
    omega
  have := near_norm n 0 (by omega) (by omega) (by omega)
  generalize single.nearest false n 0 = f at this ⊢
  have g1 : 127 ≤ ((0 : Int) + (n.log2 : Int) + 127).toNat := by omega
  have g2 : ((0 : Int) + (n.log2 : Int) + 128).toNat ≤ 144 := by omega
  exact ⟨Nat.le_trans (Nat.mul_le_mul_right 8388608 g1) this.1, Nat.le_trans this.2 (Nat.mul_le_mul_right 8388608 g2)⟩

theorem field_of {a lo hi : Nat} (h1 : lo * 8388608 ≤ a) (h2 : a ≤ hi * 8388608) : ∃ p, lo ≤ p ∧ p ≤ hi ∧ p * 8388608 ≤ a ∧ a < (p + 1) * 8388608 := ⟨a / 8388608, by clear h2; omega, by clear h1; omega, by clear h1 h2; omega, by clear h1 h2; omega⟩
theorem mul_rng {a b l1 u1 l2 u2 : Nat} (ha : l1 * 8388608 ≤ a ∧ a ≤ u1 * 8388608) (hb : l2 * 8388608 ≤ b ∧ b ≤ u2 * 8388608) (h1 : 1 ≤ l1 ∧ u1 < 255) (h2 : 1 ≤ l2 ∧ u2 < 255) (h3 : 128 ≤ l1 + l2) (h4 : u1 + u2 ≤ 378) :
    ∃ c, fop .f32 .mul (num .f32 a) (num .f32 b) = some c ∧ (l1 + l2 - 127) * 8388608 ≤ c ∧ c ≤ (u1 + u2 - 125) * 8388608 := by
  obtain ⟨p, p1, p2, p3⟩ := field_of ha.1 ha.2
  obtain ⟨q, q1, q2, q3⟩ := field_of hb.1 hb.2
  obtain ⟨c, hc, c1, c2⟩ := mul_norm p3 q3 (by omega) (by omega) (by omega) (by omega)
  exact ⟨c, by rw [fop_num]; exact hc, Nat.le_trans (Nat.mul_le_mul_right _ (by omega)) c1, Nat.le_trans c2 (Nat.mul_le_mul_right _ (by omega))⟩
theorem div_rng {a b l1 u1 l2 u2 : Nat} (ha : l1 * 8388608 ≤ a ∧ a ≤ u1 * 8388608) (hb : l2 * 8388608 ≤ b ∧ b ≤ u2 * 8388608) (h1 : 1 ≤ l1 ∧ u1 < 255) (h2 : 1 ≤ l2 ∧ u2 < 255) (h3 : u2 ≤ l1 + 125) (h4 : u1 ≤ l2 + 124) :
    ∃ c, fop .f32 .quo (num .f32 a) (num .f32 b) = some c ∧ (l1 + 126 - u2) * 8388608 ≤ c ∧ c ≤ (u1 + 128 - l2) * 8388608 := by
  obtain ⟨p, p1, p2, p3⟩ := field_of ha.1 ha.2
  obtain ⟨q, q1, q2, q3⟩ := field_of hb.1 hb.2
  obtain ⟨c, hc, c1, c2⟩ := div_norm p3 q3 (by omega) (by omega) (by omega) (by omega)
  exact ⟨c, by rw [fop_num]; exact hc, Nat.le_trans (Nat.mul_le_mul_right _ (by omega)) c1, Nat.le_trans c2 (Nat.mul_le_mul_right _ (by omega))⟩

theorem num_norm {a : Nat} (h1 : 8388608 ≤ a) (h2 : a < 2139095040) : num .f32 a = some a := by
  refine num_some ?_
  rw [nanK_read]
  show (single.read a).isNaN = false
  rw [norm_read h1 h2]
  rfl
def aqB (T S : Nat) : Bool := geB T 981467136 && leBB T 1233125376 && geB S 897581056 && leBB S 1065353216
def plB (n : Int) : Bool := decide (-100 ≤ n) && decide (n ≤ 100)
def tmB (n : Int) : Bool := decide (1 ≤ n) && decide (n ≤ 100000)
theorem aq_bits {T S : Nat} (hT : T < 4294967296) (hS : S < 4294967296) (h : aqB T S = true) : 981467136 ≤ T ∧ T ≤ 1233125376 ∧ 897581056 ≤ S ∧ S ≤ 1065353216 := by
  simp only [aqB, Bool.and_eq_true] at h
  obtain ⟨⟨⟨h1, h2⟩, h3⟩, h4⟩ := h
  obtain ⟨a, b⟩ := in_pos hT (by decide) (by decide) (by decide) (by decide) h1 h2
  obtain ⟨c, d⟩ := in_pos hS (by decide) (by decide) (by decide) (by decide) h3 h4
  exact ⟨a, b, c, d⟩
/-- The sum of the squares, as a float; 1/16 if it is 0. -/
def dF (dx dy : Int) : Nat := if dx = 0 ∧ dy = 0 then 1031798784 else floatOfInt .f32 (dx * dx + dy * dy)
def loO (T : Nat) (t : Int) : Option Nat := fop .f32 .mul (fop .f32 .mul (num .f32 1082130432) (num .f32 T)) (num .f32 (floatOfInt .f32 t))
def uO (T S : Nat) (dx dy t : Int) : Option Nat := fop .f32 .quo (fop .f32 .mul (num .f32 (dF dx dy)) (num .f32 S)) (loO T t)
/-- The argument of a well. -/
def argN (T S : Nat) (dx dy t : Int) : Nat := if (uO T S dx dy t).getD 0 < 562036736 then 562036736 else (uO T S dx dy t).getD 0

theorem sq_bounds (dx dy : Int) (h1 : -200 ≤ dx ∧ dx ≤ 200) (h2 : -200 ≤ dy ∧ dy ≤ 200) : 0 ≤ dx * dx + dy * dy ∧ dx * dx + dy * dy ≤ 80000 ∧ (dx * dx + dy * dy = 0 ↔ dx = 0 ∧ dy = 0) := by
  have sq : ∀ z : Int, -200 ≤ z → z ≤ 200 → 0 ≤ z * z ∧ z * z ≤ 40000 ∧ (z * z = 0 ↔ z = 0) := by
    intro z hz1 hz2
    have h0 : z * z = ((z.natAbs * z.natAbs : Nat) : Int) := by rw [Int.natCast_mul]; exact (Int.natAbs_mul_self' z).symm
    have h3 : z.natAbs ≤ 200 := by omega
    have h4 : z.natAbs * z.natAbs ≤ 200 * 200 := Nat.mul_le_mul h3 h3
    refine ⟨by omega, by omega, ?_⟩
    rw [h0]
    constructor
    · intro h
      have : z.natAbs * z.natAbs = 0 := by omega
      have := Nat.mul_eq_zero.1 this
      omega
    · intro h
      subst h
      rfl
  have a := sq dx h1.1 h1.2
  have b := sq dy h2.1 h2.2
  refine ⟨by omega, by omega, ?_⟩
  constructor
  · intro h
    exact ⟨a.2.2.1 (by omega), b.2.2.1 (by omega)⟩
  · rintro ⟨h, k⟩
    subst h k
    rfl
theorem dF_rng (dx dy : Int) (h1 : -200 ≤ dx ∧ dx ≤ 200) (h2 : -200 ≤ dy ∧ dy ≤ 200) : 123 * 8388608 ≤ dF dx dy ∧ dF dx dy ≤ 144 * 8388608 := by
  obtain ⟨a, b, c⟩ := sq_bounds dx dy h1 h2
  unfold dF
  split
  · decide
  · rename_i hn
    obtain ⟨n, hn2⟩ : ∃ n : Nat, dx * dx + dy * dy = (n : Int) := ⟨(dx * dx + dy * dy).toNat, by omega⟩
    have hp : 1 ≤ n := by
      rcases Nat.eq_zero_or_pos n with h | h
      · subst h
        exact absurd (c.1 hn2) hn
      · exact h
    rw [hn2]
    have := int_norm n hp (by omega)
    exact ⟨Nat.le_trans (by decide) this.1, this.2⟩
/-- The argument before it is held against TINY. -/
theorem uO_is {T S : Nat} {dx dy t : Int} (hT : 981467136 ≤ T ∧ T ≤ 1233125376) (hS : 897581056 ≤ S ∧ S ≤ 1065353216) (h1 : -200 ≤ dx ∧ dx ≤ 200) (h2 : -200 ≤ dy ∧ dy ≤ 200) (ht : 1 ≤ t ∧ t ≤ 100000) :
    ∃ a b u, fop .f32 .mul (num .f32 (dF dx dy)) (num .f32 S) = some a ∧ loO T t = some b ∧ uO T S dx dy t = some u ∧ 8388608 ≤ u ∧ u ≤ 155 * 8388608 := by
  obtain ⟨n, hn⟩ : ∃ n : Nat, t = (n : Int) := ⟨t.toNat, by omega⟩
  obtain ⟨a, ha, a1, a2⟩ := mul_rng (dF_rng dx dy h1 h2) (b := S) (l2 := 107) (u2 := 127) (by constructor <;> omega) (by decide) (by decide) (by decide) (by decide)
  obtain ⟨c, hc, c1, c2⟩ := mul_rng (a := 1082130432) (b := T) (l1 := 129) (u1 := 129) (l2 := 117) (u2 := 147) (by decide) (by constructor <;> omega) (by decide) (by decide) (by decide) (by decide)
  have ht2 := int_norm n (by omega) (by omega)
  obtain ⟨b, hb, b1, b2⟩ := mul_rng (a := c) (l1 := 119) (u1 := 151) ⟨c1, c2⟩ ht2 (by decide) (by decide) (by decide) (by decide)
  obtain ⟨u, hu, u1, u2⟩ := div_rng (a := a) (b := b) (l1 := 103) (u1 := 146) (l2 := 119) (u2 := 170) ⟨a1, a2⟩ ⟨b1, b2⟩ (by decide) (by decide) (by decide) (by decide)
  have nc := num_norm (a := c) (Nat.le_trans (by decide) c1) (Nat.lt_of_le_of_lt c2 (by decide))
  have na := num_norm (a := a) (Nat.le_trans (by decide) a1) (Nat.lt_of_le_of_lt a2 (by decide))
  have nb := num_norm (a := b) (Nat.le_trans (by decide) b1) (Nat.lt_of_le_of_lt b2 (by decide))
  have hlo : loO T t = some b := by
    unfold loO
    rw [hc, ← nc, hn]
    exact hb
  refine ⟨a, b, u, ha, hlo, ?_, Nat.le_trans (by decide) u1, u2⟩
  unfold uO
  rw [ha, hlo, ← na, ← nb]
  exact hu
/-- What is calculated on the way to an argument; nothing is a NaN. -/
structure ArgOk (T S : Nat) (dx dy t : Int) (c b a u : Nat) : Prop where
  four : fop .f32 .mul (num .f32 1082130432) (num .f32 T) = some c
  low : fop .f32 .mul (num .f32 c) (num .f32 (floatOfInt .f32 t)) = some b
  top : fop .f32 .mul (num .f32 (dF dx dy)) (num .f32 S) = some a
  quo : fop .f32 .quo (num .f32 a) (num .f32 b) = some u
  lo : 8388608 ≤ u
  hi : u ≤ 155 * 8388608
  is : argN T S dx dy t = if u < 562036736 then 562036736 else u
theorem argOk {T S : Nat} {dx dy t : Int} (hT : 981467136 ≤ T ∧ T ≤ 1233125376) (hS : 897581056 ≤ S ∧ S ≤ 1065353216) (h1 : -200 ≤ dx ∧ dx ≤ 200) (h2 : -200 ≤ dy ∧ dy ≤ 200) (ht : 1 ≤ t ∧ t ≤ 100000) :
    ∃ c b a u, ArgOk T S dx dy t c b a u := by
  obtain ⟨n, hn⟩ : ∃ n : Nat, t = (n : Int) := ⟨t.toNat, by omega⟩
  obtain ⟨a, ha, a1, a2⟩ := mul_rng (dF_rng dx dy h1 h2) (b := S) (l2 := 107) (u2 := 127) (by constructor <;> omega) (by decide) (by decide) (by decide) (by decide)
  obtain ⟨c, hc, c1, c2⟩ := mul_rng (a := 1082130432) (b := T) (l1 := 129) (u1 := 129) (l2 := 117) (u2 := 147) (by decide) (by constructor <;> omega) (by decide) (by decide) (by decide) (by decide)
  have ht2 := int_norm n (by omega) (by omega)
  obtain ⟨b, hb, b1, b2⟩ := mul_rng (a := c) (l1 := 119) (u1 := 151) ⟨c1, c2⟩ ht2 (by decide) (by decide) (by decide) (by decide)
  obtain ⟨u, hu, u1, u2⟩ := div_rng (a := a) (b := b) (l1 := 103) (u1 := 146) (l2 := 119) (u2 := 170) ⟨a1, a2⟩ ⟨b1, b2⟩ (by decide) (by decide) (by decide) (by decide)
  have nc := num_norm (a := c) (Nat.le_trans (by decide) c1) (Nat.lt_of_le_of_lt c2 (by decide))
  have na := num_norm (a := a) (Nat.le_trans (by decide) a1) (Nat.lt_of_le_of_lt a2 (by decide))
  have nb := num_norm (a := b) (Nat.le_trans (by decide) b1) (Nat.lt_of_le_of_lt b2 (by decide))
  have hlo : loO T t = some b := by
    unfold loO
    rw [hc, ← nc, hn]
    exact hb
  have huO : uO T S dx dy t = some u := by
    unfold uO
    rw [ha, hlo, ← na, ← nb]
    exact hu
  refine ⟨c, b, a, u, hc, by rw [hn]; exact hb, ha, hu, Nat.le_trans (by decide) u1, u2, ?_⟩
  unfold argN
  rw [huO]
  rfl
theorem argN_rng {T S : Nat} {dx dy t : Int} {c b a u : Nat} (h : ArgOk T S dx dy t c b a u) : 562036736 ≤ argN T S dx dy t ∧ argN T S dx dy t ≤ 1300234240 := by
  have h1 := h.hi
  rw [h.is]
  generalize u = v at h1
  clear h
  split
  · exact ⟨Nat.le_refl _, by decide⟩
  · exact ⟨by omega, Nat.le_trans h1 (by decide)⟩
/-- The drawdown of a well. -/
def drwV (T S R : Nat) (dx dy t : Int) : Option Nat := if 1117782016 < argN T S dx dy t then num .f32 0 else fop .f32 .mul (fop .f32 .quo (num .f32 R) (fop .f32 .mul (num .f32 1095307227) (num .f32 T))) (wellV (argN T S dx dy t))
end Go.Proofs.Ytdhgehmnjoclaaa
