/- What a logger has of a level, as a value. Condition: none. -/
import Derived.Test.YtbiknpfcemfoeaaDoorAq
namespace Go.Proofs.YtbiknpfcemfoeaaDoor
open Go Go.RowKit Ieee
set_option linter.unusedSimpArgs false
set_option linter.unusedVariables false

theorem word_neg (s : Bool) (r : Nat) (h : r ≤ 2139095040) : (single.read (single.word s r)).neg = s := by
  have hw : single.signWeight = 2147483648 := by decide
  have : ∀ b, (single.read b).neg = (b / 2147483648 % 2 == 1) := by
    intro b
    unfold Format.read
    rw [hw]
    simp only []
    split
    · rfl
    · split
      · rfl
      · split
        · rfl
        · rfl
  rw [this]
  unfold Format.word
  rw [hw]
  cases s
  · simp only [Bool.false_eq_true, if_false]
    have : r / 2147483648 = 0 := by omega
    rw [this]; rfl
  · simp only [if_true]
    have : (2147483648 + r) / 2147483648 = 1 := by omega
    rw [this]; rfl
theorem write_neg (d : Datum) (h : d.isNaN = false) : (single.read (single.write d)).neg = d.neg := by
  have hi : single.infRung = 2139095040 := by decide
  cases d with
  | number s m i =>
    show (single.read (single.nearest s m i)).neg = s
    unfold Format.nearest
    split
    · exact word_neg s 0 (by decide)
    · refine word_neg s _ ?_
      rw [← hi]
      exact Nat.min_le_right _ _
  | infinity s => exact word_neg s _ (by rw [hi]; exact Nat.le_refl _)
  | nan s f => simp [Datum.isNaN] at h

theorem cut_le (s : Bool) (m : Nat) (i : Int) (B p : Nat) (hc : m * 2 ^ (i - min i (-(p : Int))).toNat ≤ (B * 2 ^ p) * 2 ^ (-(p : Int) - min i (-(p : Int))).toNat) : Toward.zero.cut s (m <<< i.toNat) (-i).toNat ≤ B := by
  unfold Toward.cut
  simp only [Nat.shiftLeft_eq, Bool.toNat_false, Nat.add_zero, Nat.one_mul]
  have far : ∀ k, ¬ k ≤ m.log2 + 2 → m / 2 ^ (min k (m.log2 + 2)) ≤ B := fun k hk => by
    rw [Nat.min_eq_right (by omega)]
    have : m < 2 ^ (m.log2 + 2) := Nat.lt_of_lt_of_le Nat.lt_log2_self (Nat.pow_le_pow_right (by decide) (by omega))
    rw [Nat.div_eq_of_lt this]
    omega
  by_cases hi : i ≤ -(p : Int)
  · obtain ⟨j, rfl⟩ : ∃ j : Nat, i = -(p : Int) - (j : Int) := ⟨(-(p : Int) - i).toNat, by omega⟩
    rw [show ((-(p : Int) - (j : Int)) - min (-(p : Int) - (j : Int)) (-(p : Int))).toNat = 0 by omega, show (-(p : Int) - min (-(p : Int) - (j : Int)) (-(p : Int))).toNat = j by omega, Nat.pow_zero, Nat.mul_one] at hc
    rw [show (-(p : Int) - (j : Int)).toNat = 0 by omega, show (-(-(p : Int) - (j : Int))).toNat = p + j by omega, Nat.pow_zero, Nat.mul_one]
    by_cases hl : p + j ≤ m.log2 + 2
    · rw [Nat.min_eq_left hl]
      have h1 : B * 2 ^ p * 2 ^ j = 2 ^ (p + j) * B := by rw [Nat.pow_add, Nat.mul_comm (2 ^ p * 2 ^ j), Nat.mul_assoc]
      refine (Nat.div_le_iff_le_mul_add_pred (Nat.two_pow_pos _)).2 ?_
      rw [h1] at hc
      omega
    · exact far _ hl
  · rw [show (-(p : Int) - min i (-(p : Int))).toNat = 0 by omega, Nat.pow_zero, Nat.mul_one] at hc
    obtain ⟨k, hk⟩ : ∃ k : Nat, (i - min i (-(p : Int))).toNat = k := ⟨_, rfl⟩
    rw [hk] at hc
    have hk9 : i = (k : Int) - (p : Int) := by omega
    by_cases hn : k ≤ p
    · rw [show i.toNat = 0 by omega, show (-i).toNat = p - k by omega, Nat.pow_zero, Nat.mul_one]
      have h2 : 2 ^ (p - k) * 2 ^ k = 2 ^ p := by rw [← Nat.pow_add]; congr 1; omega
      by_cases hl : p - k ≤ m.log2 + 2
      · rw [Nat.min_eq_left hl]
        refine (Nat.div_le_iff_le_mul_add_pred (Nat.two_pow_pos _)).2 ?_
        have : m * 2 ^ k ≤ (2 ^ (p - k) * B) * 2 ^ k := by
          rw [Nat.mul_right_comm, h2, Nat.mul_comm (2 ^ p) B]; exact hc
        have := Nat.le_of_mul_le_mul_right this (Nat.two_pow_pos k)
        omega
      · exact far _ hl
    · rw [show (-i).toNat = 0 by omega, Nat.zero_min, Nat.pow_zero, Nat.div_one, show i.toNat = k - p by omega]
      have h2 : 2 ^ k = 2 ^ (k - p) * 2 ^ p := by rw [← Nat.pow_add]; congr 1; omega
      rw [h2, ← Nat.mul_assoc] at hc
      exact Nat.le_of_mul_le_mul_right hc (Nat.two_pow_pos p)
theorem cmp_le {a b : Int} (h : some (compare a b) = some Ordering.lt ∨ some (compare a b) = some Ordering.eq) : a ≤ b := by
  simp only [Option.some.injEq, compare, compareOfLessAndEq] at h
  rcases h with h | h
  · split at h
    · omega
    · split at h <;> simp at h
  · split at h
    · simp at h
    · split at h
      · rename_i h2; omega
      · simp at h
theorem cmp_ge {a b : Int} (h : some (compare a b) = some Ordering.gt ∨ some (compare a b) = some Ordering.eq) : b ≤ a := by
  simp only [Option.some.injEq, compare, compareOfLessAndEq] at h
  rcases h with h | h
  · split at h
    · simp at h
    · split at h
      · simp at h
      · omega
  · split at h
    · simp at h
    · split at h
      · rename_i h2; omega
      · simp at h
/-- A number that is not negative, held against 32767. -/
theorem toInt_up {d : Datum} (hs : d.neg = false) (h : d.order (.number false 16776704 (-9)) = some .lt ∨ d.order (.number false 16776704 (-9)) = some .eq) : ∃ n : Nat, d.toInt .zero = some (n : Int) ∧ n ≤ 32767 := by
  cases d with
  | nan s f => simp [Datum.order] at h
  | infinity s =>
    simp only [Datum.neg] at hs
    subst hs
    simp [Datum.order] at h
  | number s m i =>
    simp only [Datum.neg] at hs
    subst hs
    refine ⟨Toward.zero.cut false (m <<< i.toNat) (-i).toNat, by simp [Datum.toInt, Datum.integral, signed], ?_⟩
    have hc := cmp_le h
    simp only [signed, Bool.false_eq_true, if_false, Nat.shiftLeft_eq] at hc
    refine cut_le false m i 32767 9 ?_
    exact_mod_cast hc
/-- A negative number, held against -32768. -/
theorem toInt_down {d : Datum} (hs : d.neg = true) (h : d.order (.number true 8388608 (-8)) = some .gt ∨ d.order (.number true 8388608 (-8)) = some .eq) : ∃ n : Nat, d.toInt .zero = some (-(n : Int)) ∧ n ≤ 32768 := by
  cases d with
  | nan s f => simp [Datum.order] at h
  | infinity s =>
    simp only [Datum.neg] at hs
    subst hs
    simp [Datum.order] at h
  | number s m i =>
    simp only [Datum.neg] at hs
    subst hs
    refine ⟨Toward.zero.cut true (m <<< i.toNat) (-i).toNat, by simp [Datum.toInt, Datum.integral, signed], ?_⟩
    have hc := cmp_ge h
    simp only [signed, if_true, Nat.shiftLeft_eq] at hc
    have hc : m * 2 ^ (i - min i (-8)).toNat ≤ 8388608 * 2 ^ (-8 - min i (-8)).toNat := by
      have := Int.neg_le_neg hc
      simp only [Int.neg_neg] at this
      exact_mod_cast this
    exact cut_le true m i 32768 8 hc

theorem signed_ge {s : Bool} {m k : Nat} (h : 0 ≤ signed s m k) (k' : Nat) : 0 ≤ signed s m k' := by
  unfold signed at *
  cases s
  · simp only [Bool.false_eq_true, if_false]; exact Int.natCast_nonneg _
  · simp only [if_true, Nat.shiftLeft_eq] at *
    have h0 : m * 2 ^ k = 0 := by omega
    have hm : m = 0 := by
      rcases Nat.mul_eq_zero.1 h0 with h1 | h1
      · exact h1
      · have := Nat.two_pow_pos k; omega
    subst hm
    simp
theorem signed_lt {s : Bool} {m k : Nat} (h : signed s m k < 0) (k' : Nat) : signed s m k' ≤ 0 := by
  unfold signed at *
  cases s
  · simp only [Bool.false_eq_true, if_false] at h
    have := Int.natCast_nonneg (m <<< k)
    omega
  · simp only [if_true]
    have := Int.natCast_nonneg (m <<< k')
    omega
theorem half_read : single.read 1056964608 = .number false 8388608 (-24) := by decide +kernel
theorem c16_read : single.read 1098907648 = .number false 8388608 (-19) := by decide +kernel
theorem zero_readL : single.read 0 = .number false 0 (-149) := by decide +kernel
theorem top_read : single.read 1191181824 = .number false 16776704 (-9) := by decide +kernel
theorem low_read : single.read 3338665984 = .number true 8388608 (-8) := by decide +kernel
theorem nan_num {r : Nat} (h : (single.read r).isNaN = false) : num .f32 r = some r := num_some (by rw [nanK_read]; exact h)
theorem write_numD {d : Datum} (h : d.isNaN = false) : num .f32 (single.write d) = some (single.write d) := num_some (write_notnan .f32 d h)
/-- A level that is a number times 16. -/
theorem times16 {l : Nat} (h : nanK .f32 l = false) : ∃ z, fop .f32 .mul (num .f32 l) (num .f32 1098907648) = some z ∧ num .f32 z = some z := by
  rw [nanK_read] at h
  rw [fop_num]
  show ∃ z, ((single.read l).product (single.read 1098907648)).map single.write = some z ∧ _
  rw [c16_read]
  have h' : (single.read l).isNaN = false := h
  cases hl : single.read l with
  | nan s f => rw [hl] at h'; simp [Datum.isNaN] at h'
  | infinity s => exact ⟨_, rfl, write_numD (d := .infinity _) rfl⟩
  | number s m i => exact ⟨_, rfl, write_numD (d := .number _ _ _) rfl⟩
/-- A number that is not less than 0, and a half. -/
theorem plusHalf {z : Nat} (hz : num .f32 z = some z) (h : geB z 0 = true) : ∃ v, fop .f32 .add (num .f32 z) (num .f32 1056964608) = some v ∧ num .f32 v = some v ∧ (single.read v).neg = false := by
  have hn := (num_eq_some hz).2
  rw [nanK_read] at hn
  have h' : (single.read z).isNaN = false := hn
  rw [fop_num]
  show ∃ v, ((single.read z).sum (single.read 1056964608)).map single.write = some v ∧ _
  have hg : (single.read z).order (single.read 0) = some .gt ∨ (single.read z).order (single.read 0) = some .eq := by
    simp only [geB, Bool.or_eq_true, beq_iff_eq] at h
    exact h
  rw [zero_readL] at hg
  rw [half_read]
  cases hl : single.read z with
  | nan s f => rw [hl] at h'; simp [Datum.isNaN] at h'
  | infinity s =>
    rw [hl] at hg
    cases s
    · exact ⟨_, rfl, write_numD (d := .infinity _) rfl, write_neg (.infinity false) rfl⟩
    · simp [Datum.order] at hg
  | number s m i =>
    rw [hl] at hg
    have hc := cmp_ge hg
    have h0 : (0 : Int) ≤ signed s m (i - min i (-149)).toNat := by simpa [signed] using hc
    refine ⟨_, rfl, write_numD (d := .number _ _ _) rfl, ?_⟩
    rw [write_neg _ rfl]
    have h1 := signed_ge h0 (i - min i (-24)).toNat
    have h2 : (0 : Int) < signed false 8388608 (-24 - min i (-24)).toNat := by
      simp only [signed, Bool.false_eq_true, if_false, Nat.shiftLeft_eq]
      have := Nat.mul_pos (show 0 < 8388608 by decide) (Nat.two_pow_pos (-24 - min i (-24)).toNat)
      omega
    show (if _ then _ else _) = false
    rw [if_neg (by omega)]
    simp; omega
/-- A number that is less than 0, less a half. -/
theorem lessHalf {z : Nat} (hz : num .f32 z = some z) (h : geB z 0 = false) : ltB z 0 = true ∧ ∃ v, fop .f32 .sub (num .f32 z) (num .f32 1056964608) = some v ∧ num .f32 v = some v ∧ (single.read v).neg = true := by
  have hn := (num_eq_some hz).2
  rw [nanK_read] at hn
  have h' : (single.read z).isNaN = false := hn
  rw [fop_num]
  show _ ∧ ∃ v, ((single.read z).sum (single.read 1056964608).opposite).map single.write = some v ∧ _
  have hl0 : (single.read z).order (single.read 0) = some .lt := by
    have : ∃ o, (single.read z).order (single.read 0) = some o := by
      rw [zero_readL]
      cases hl : single.read z with
      | nan s f => rw [hl] at h'; simp [Datum.isNaN] at h'
      | infinity s => exact ⟨_, rfl⟩
      | number s m i => exact ⟨_, rfl⟩
    obtain ⟨o, ho⟩ := this
    have ho' : FloatKind.f32.format.order z 0 = some o := ho
    simp only [geB, ho', Bool.or_eq_false_iff, beq_eq_false_iff_ne] at h
    cases o
    · exact ho
    · simp at h
    · simp at h
  refine ⟨by simp only [ltB, beq_iff_eq]; exact hl0, ?_⟩
  rw [zero_readL] at hl0
  rw [half_read]
  cases hl : single.read z with
  | nan s f => rw [hl] at h'; simp [Datum.isNaN] at h'
  | infinity s =>
    rw [hl] at hl0
    cases s
    · simp [Datum.order] at hl0
    · exact ⟨_, rfl, write_numD (d := .infinity _) rfl, write_neg (.infinity true) rfl⟩
  | number s m i =>
    rw [hl] at hl0
    have hc : signed s m (i - min i (-149)).toNat < 0 := by
      simp only [Datum.order, Option.some.injEq, compare, compareOfLessAndEq] at hl0
      split at hl0
      · rename_i h; simpa [signed] using h
      · split at hl0 <;> simp at hl0
    refine ⟨_, rfl, write_numD (d := .number _ _ _) rfl, ?_⟩
    rw [write_neg _ rfl]
    have h1 := signed_lt hc (i - min i (-24)).toNat
    have h2 : signed true 8388608 (-24 - min i (-24)).toNat < 0 := by
      simp only [signed, if_true, Nat.shiftLeft_eq]
      have := Nat.mul_pos (show 0 < 8388608 by decide) (Nat.two_pow_pos (-24 - min i (-24)).toNat)
      omega
    show (if _ then _ else _) = true
    have h3 : signed s m (i - min i (-24)).toNat + signed (!false) 8388608 (-24 - min i (-24)).toNat < 0 := by simp only [Bool.not_false]; omega
    rw [if_neg (by omega)]
    simpa using h3
theorem order_ex {v c : Nat} (h1 : (single.read v).isNaN = false) (h2 : (single.read c).isNaN = false) : ∃ o, FloatKind.f32.format.order v c = some o := by
  show ∃ o, (single.read v).order (single.read c) = some o
  cases hv : single.read v <;> cases hc : single.read c <;> simp [hv, hc, Datum.isNaN, Datum.order] at h1 h2 ⊢
/-- The lesser of a number and 32767. -/
theorem min_top {v : Nat} (hv : num .f32 v = some v) (hs : (single.read v).neg = false) : ∃ (u : Nat) (n : Int), (∀ (P : Program) (ts : Array TypeId) (t : TypeId) (w : World), (Builtin.min_ ts t #[.float .f32 v, .float .f32 1191181824]).run P w = .ok (.float .f32 u) w) ∧ floatToIntVal .f32 u .i16 = some n ∧
    (if ltB v 1191181824 = true then floatToIntVal .f32 v .i64 = some n else n = 32767) ∧ 0 ≤ n ∧ n ≤ 32767 := by
  have hn := (num_eq_some hv).2
  rw [nanK_read] at hn
  obtain ⟨o, ho⟩ := order_ex (c := 1191181824) (show (single.read v).isNaN = false from hn) (by rw [top_read]; rfl)
  have top : floatToIntVal .f32 1191181824 .i16 = some 32767 := by decide +kernel
  have hm : ∀ (P : Program) (ts : Array TypeId) (t : TypeId) (w : World), (Builtin.min_ ts t #[.float .f32 v, .float .f32 1191181824]).run P w = .ok (.float .f32 (if o = .lt then v else 1191181824)) w := by
    intro P ts t w
    unfold Builtin.min_
    simp only [List.foldlM, Builtin.min2, ho]
    have hd : (FloatKind.f32.decode v).neg = false := hs
    cases o <;> simp [hd, go_sem]
  cases o with
  | lt =>
    have h2 : (single.read v).order (.number false 16776704 (-9)) = some .lt := by rw [← top_read]; exact ho
    obtain ⟨n, h3, h4⟩ := toInt_up hs (.inl h2)
    have h3' : (FloatKind.f32.decode v).toInt .zero = some (n : Int) := h3
    refine ⟨v, n, hm, ?_, ?_, by omega, by omega⟩
    · simp only [floatToIntVal, h3']
      rw [if_pos (by constructor <;> simp [IntKind.min, IntKind.max, IntKind.bits, IntKind.signed] <;> omega)]
    · rw [if_pos (by simp [ltB, ho])]
      simp only [floatToIntVal, h3']
      rw [if_pos (by constructor <;> simp [IntKind.min, IntKind.max, IntKind.bits, IntKind.signed] <;> omega)]
  | eq => exact ⟨1191181824, 32767, hm, top, by rw [if_neg (by simp [ltB, ho])], by decide, by decide⟩
  | gt => exact ⟨1191181824, 32767, hm, top, by rw [if_neg (by simp [ltB, ho])], by decide, by decide⟩
def gtBB (x c : Nat) : Bool := FloatKind.f32.format.order x c == some Ordering.gt
/-- The greater of a number and -32768. -/
theorem max_low {v : Nat} (hv : num .f32 v = some v) (hs : (single.read v).neg = true) : ∃ (u : Nat) (n : Int), (∀ (P : Program) (ts : Array TypeId) (t : TypeId) (w : World), (Builtin.max_ ts t #[.float .f32 v, .float .f32 3338665984]).run P w = .ok (.float .f32 u) w) ∧ floatToIntVal .f32 u .i16 = some n ∧
    (if gtBB v 3338665984 = true then floatToIntVal .f32 v .i64 = some n else n = -32768) ∧ -32768 ≤ n ∧ n ≤ 0 := by
  have hn := (num_eq_some hv).2
  rw [nanK_read] at hn
  obtain ⟨o, ho⟩ := order_ex (c := 3338665984) (show (single.read v).isNaN = false from hn) (by rw [low_read]; rfl)
  have top : floatToIntVal .f32 3338665984 .i16 = some (-32768) := by decide +kernel
  have hm : ∀ (P : Program) (ts : Array TypeId) (t : TypeId) (w : World), (Builtin.max_ ts t #[.float .f32 v, .float .f32 3338665984]).run P w = .ok (.float .f32 (if o = .gt then v else 3338665984)) w := by
    intro P ts t w
    unfold Builtin.max_
    simp only [List.foldlM, Builtin.max2, ho]
    have hd : (FloatKind.f32.decode v).neg = true := hs
    cases o <;> simp [hd, go_sem]
  cases o with
  | gt =>
    have h2 : (single.read v).order (.number true 8388608 (-8)) = some .gt := by rw [← low_read]; exact ho
    obtain ⟨n, h3, h4⟩ := toInt_down hs (.inl h2)
    have h3' : (FloatKind.f32.decode v).toInt .zero = some (-(n : Int)) := h3
    refine ⟨v, -n, hm, ?_, ?_, by omega, by omega⟩
    · simp only [floatToIntVal, h3']
      rw [if_pos (by constructor <;> simp [IntKind.min, IntKind.max, IntKind.bits, IntKind.signed] <;> omega)]
    · rw [if_pos (by simp [gtBB, ho])]
      simp only [floatToIntVal, h3']
      rw [if_pos (by constructor <;> simp [IntKind.min, IntKind.max, IntKind.bits, IntKind.signed] <;> omega)]
  | eq => exact ⟨3338665984, -32768, hm, top, by rw [if_neg (by simp [gtBB, ho])], by decide, by decide⟩
  | lt => exact ⟨3338665984, -32768, hm, top, by rw [if_neg (by simp [gtBB, ho])], by decide, by decide⟩

/-- What a logger has of a level: how it comes about. -/
inductive Lgs (l : Nat) (n : Int) : Prop
  | none (h : nanK .f32 l = true) (hn : n = 0)
  | up (z v u : Nat) (h : nanK .f32 l = false) (hz : fop .f32 .mul (num .f32 l) (num .f32 1098907648) = some z) (g : geB z 0 = true) (hv : fop .f32 .add (num .f32 z) (num .f32 1056964608) = some v)
      (hm : ∀ (P : Program) (ts : Array TypeId) (t : TypeId) (w : World), (Builtin.min_ ts t #[.float .f32 v, .float .f32 1191181824]).run P w = .ok (.float .f32 u) w) (hu : floatToIntVal .f32 u .i16 = some n)
      (hi : if ltB v 1191181824 = true then floatToIntVal .f32 v .i64 = some n else n = 32767) (lo : -32768 ≤ n) (up : n ≤ 32767)
  | down (z v u : Nat) (h : nanK .f32 l = false) (hz : fop .f32 .mul (num .f32 l) (num .f32 1098907648) = some z) (g : geB z 0 = false) (g2 : ltB z 0 = true) (hv : fop .f32 .sub (num .f32 z) (num .f32 1056964608) = some v)
      (hm : ∀ (P : Program) (ts : Array TypeId) (t : TypeId) (w : World), (Builtin.max_ ts t #[.float .f32 v, .float .f32 3338665984]).run P w = .ok (.float .f32 u) w) (hu : floatToIntVal .f32 u .i16 = some n)
      (hi : if gtBB v 3338665984 = true then floatToIntVal .f32 v .i64 = some n else n = -32768) (lo : -32768 ≤ n) (up : n ≤ 32767)
theorem lgs_ex (l : Nat) : ∃ n, Lgs l n := by
  cases hl : nanK .f32 l
  · obtain ⟨z, hz, nz⟩ := times16 hl
    cases hg : geB z 0
    · obtain ⟨g2, v, hv, nv, sv⟩ := lessHalf nz hg
      obtain ⟨u, n, hm, hu, hi, a, b⟩ := max_low nv sv
      exact ⟨n, .down z v u hl hz hg g2 hv hm hu hi a (by omega)⟩
    · obtain ⟨v, hv, nv, sv⟩ := plusHalf nz hg
      obtain ⟨u, n, hm, hu, hi, a, b⟩ := min_top nv sv
      exact ⟨n, .up z v u hl hz hg hv hm hu hi (by omega) b⟩
  · exact ⟨0, .none hl rfl⟩
end Go.Proofs.YtbiknpfcemfoeaaDoor
