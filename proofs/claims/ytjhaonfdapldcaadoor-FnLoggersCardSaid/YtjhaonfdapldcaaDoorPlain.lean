/- Plain numbers: what is plain is finite, and so is the difference of two of them. No condition. -/
import Derived.Test.YtjhaonfdapldcaaDoorWorstS
namespace Go.Proofs.YtjhaonfdapldcaaDoor
open Go.RowKit Ieee
set_option linter.unusedSimpArgs false
set_option linter.unusedVariables false

theorem cut_le (neg : Bool) (n d : Nat) : Toward.even.cut neg n d ≤ n / 2 ^ d + 1 := by
  unfold Toward.cut
  simp only []
  by_cases h0 : n = 0
  · subst h0
    simp
  by_cases hd : d ≤ n.log2 + 2
  · rw [Nat.min_eq_left hd, Nat.shiftLeft_eq, Nat.one_mul]
    have : ∀ b : Bool, b.toNat ≤ 1 := fun b => by cases b <;> simp
    have := this (decide (2 ^ d < 2 * (n % 2 ^ d)) || 2 ^ d == 2 * (n % 2 ^ d) && n / 2 ^ d % 2 == 1)
    omega
  · have hm : min d (n.log2 + 2) = n.log2 + 2 := Nat.min_eq_right (by omega)
    rw [hm, Nat.shiftLeft_eq, Nat.one_mul]
    have hlt : n < 2 ^ (n.log2 + 1) := Nat.lt_log2_self
    have hlt2 : n < 2 ^ (n.log2 + 2) := Nat.lt_of_lt_of_le hlt (Nat.pow_le_pow_right (by omega) (by omega))
    rw [Nat.div_eq_of_lt hlt2]
    have : ∀ b : Bool, b.toNat ≤ 1 := fun b => by cases b <;> simp
    have := this (decide (2 ^ (n.log2 + 2) < 2 * (n % 2 ^ (n.log2 + 2))) || 2 ^ (n.log2 + 2) == 2 * (n % 2 ^ (n.log2 + 2)) && 0 % 2 == 1)
    generalize n / 2 ^ d = q
    omega

theorem word_fin (s : Bool) (r : Nat) (h : r < 2139095040) : finB (single.word s r) = true := by
  have hm : single.word s r % 2147483648 = r := by
    unfold Format.word
    rw [s1]
    cases s <;> simp <;> omega
  unfold finB
  by_cases h2 : r < 8388608
  · have e : single.read (single.word s r) = .number (single.word s r / 2147483648 % 2 == 1) r (-149) := by
      unfold Format.read
      simp only [s1, s2, s3, s4, hm]
      rw [if_pos h2]
    rw [e]
  · have e : single.read (single.word s r) = .number (single.word s r / 2147483648 % 2 == 1) (8388608 + r % 8388608) (-149 + ((r / 8388608 - 1 : Nat) : Int)) := by
      unfold Format.read
      simp only [s1, s2, s3, s4, hm]
      rw [if_neg h2, if_pos h]
    rw [e]

/-- A number that is not too great is finite when it is rounded. -/
theorem nearest_fin (s : Bool) (m : Nat) (p : Int) (hp : -149 ≤ p) (hb : p + (m.log2 : Int) ≤ 126) : finB (single.nearest s m p) = true := by
  unfold Format.nearest
  by_cases h0 : m = 0
  · rw [if_pos h0]; exact word_fin s 0 (by omega)
  rw [if_neg h0]
  simp only [s2, s3, s4, s5]
  refine word_fin s _ ?_
  have hlt : m < 2 ^ (m.log2 + 1) := Nat.lt_log2_self
  obtain ⟨last, hl⟩ : ∃ last : Int, max (p + (m.log2 : Int) - ((23 : Nat) : Int)) (-149) = last := ⟨_, rfl⟩
  rw [hl]
  have h1 : -149 ≤ last := by omega
  have h2 : last ≤ 103 := by omega
  have h3 : p + (m.log2 : Int) - 23 ≤ last := by omega
  have kept : Toward.even.cut s (m <<< (p - last).toNat) (last - p).toNat ≤ 16777216 := by
    by_cases hle : last ≤ p
    · have e : (last - p).toNat = 0 := by omega
      rw [e, cut_none, Nat.shiftLeft_eq]
      obtain ⟨k, hk⟩ : ∃ k : Nat, (p - last).toNat = k := ⟨_, rfl⟩
      rw [hk]
      have hk2 : m.log2 + k ≤ 23 := by omega
      calc m * 2 ^ k ≤ 2 ^ (m.log2 + 1) * 2 ^ k := Nat.mul_le_mul_right _ (by omega)
        _ = 2 ^ (m.log2 + 1 + k) := by rw [← Nat.pow_add]
        _ ≤ 2 ^ 24 := Nat.pow_le_pow_right (by omega) (by omega)
    · have e : (p - last).toNat = 0 := by omega
      rw [e, Nat.shiftLeft_zero]
      obtain ⟨k, hk⟩ : ∃ k : Nat, (last - p).toNat = k := ⟨_, rfl⟩
      rw [hk]
      have hk2 : m.log2 = k + 23 := by omega
      have h4 := cut_le s m k
      have h5 : m / 2 ^ k < 2 ^ 24 := by
        rw [Nat.div_lt_iff_lt_mul (Nat.two_pow_pos k), ← Nat.pow_add]
        have : 24 + k = m.log2 + 1 := by omega
        rw [this]
        exact hlt
      omega
  obtain ⟨X, hX⟩ : ∃ X : Nat, (last - -149).toNat = X := ⟨_, rfl⟩
  rw [hX]
  have : X ≤ 252 := by omega
  omega

theorem two20_read : single.read 1233125376 = .number false 8388608 (-3) := by decide +kernel
theorem ntwo20_read : single.read 3380609024 = .number true 8388608 (-3) := by decide +kernel
theorem cmp_le {a b : Int} (h : (some (compare a b) == some Ordering.lt || some (compare a b) == some Ordering.eq) = true) : a ≤ b := by
  by_cases h1 : a < b
  · omega
  · by_cases h2 : a = b
    · omega
    · have : compare a b = Ordering.gt := by simp [compare, compareOfLessAndEq, h1, h2]
      rw [this] at h
      simp at h
theorem cmp_ge {a b : Int} (h : (some (compare a b) == some Ordering.gt || some (compare a b) == some Ordering.eq) = true) : b ≤ a := by
  by_cases h1 : a < b
  · have : compare a b = Ordering.lt := by simp [compare, compareOfLessAndEq, h1]
    rw [this] at h
    simp at h
  · omega
/-- A plain number, read. -/
theorem plain_read {b : Nat} (h : plainB b = true) : ∃ s m i, single.read b = .number s m i ∧ m < 16777216 ∧ -149 ≤ i ∧ i ≤ 104 ∧ m * 2 ^ (i + 149).toNat ≤ 2 ^ 169 := by
  have hf : FloatKind.f32.format = single := rfl
  unfold plainB Format.order at h
  rw [hf, two20_read, ntwo20_read, Bool.and_eq_true] at h
  obtain ⟨h1, h2⟩ := h
  cases hr : single.read b with
  | nan s f => rw [hr] at h1; simp [Datum.order] at h1
  | infinity s =>
    rw [hr] at h1 h2
    cases s
    · simp [Datum.order] at h2
    · simp [Datum.order] at h1
  | number s m i =>
    obtain ⟨r1, r2, r3⟩ := single_number hr
    rw [hr] at h1 h2
    simp only [Datum.order] at h1 h2
    have g1 := cmp_ge h1
    have g2 := cmp_le h2
    refine ⟨s, m, i, rfl, r1, r2, r3, ?_⟩
    obtain ⟨bs, hbs⟩ : ∃ bs, min i (-3) = bs := ⟨_, rfl⟩
    rw [hbs] at g1 g2
    obtain ⟨u, hu⟩ : ∃ u : Nat, (i - bs).toNat = u := ⟨_, rfl⟩
    obtain ⟨v, hv⟩ : ∃ v : Nat, (-3 - bs).toNat = v := ⟨_, rfl⟩
    rw [hu, hv] at g1 g2
    have key : m * 2 ^ u ≤ 8388608 * 2 ^ v := by
      unfold signed at g1 g2
      simp only [if_true, Bool.false_eq_true, if_false, Nat.shiftLeft_eq] at g1 g2
      generalize hA : m * 2 ^ u = A at g1 g2 ⊢
      generalize hB : 8388608 * 2 ^ v = B at g1 g2 ⊢
      cases s <;> simp at g1 g2 <;> omega
    obtain ⟨c, hc⟩ : ∃ c : Nat, (bs + 149).toNat = c := ⟨_, rfl⟩
    have e1 : (i + 149).toNat = u + c := by omega
    have e2 : v + c = 146 := by omega
    rw [e1, Nat.pow_add, ← Nat.mul_assoc]
    calc m * 2 ^ u * 2 ^ c ≤ 8388608 * 2 ^ v * 2 ^ c := Nat.mul_le_mul_right _ key
      _ = 8388608 * 2 ^ 146 := by rw [Nat.mul_assoc, ← Nat.pow_add, e2]
      _ ≤ 2 ^ 169 := by decide +kernel
theorem plain_fin {b : Nat} (h : plainB b = true) : finB b = true := by
  obtain ⟨s, m, i, hr, _⟩ := plain_read h
  unfold finB
  rw [hr]

theorem log2_le {m k : Nat} (h : m ≤ 2 ^ k) : m.log2 ≤ k := by
  by_cases h0 : m = 0
  · subst h0; simp
  · have := Nat.log2_self_le h0
    by_cases hk : m.log2 ≤ k
    · exact hk
    · have h2 : 2 ^ (k + 1) ≤ 2 ^ m.log2 := Nat.pow_le_pow_right (by omega) (by omega)
      rw [Nat.pow_succ] at h2
      have := Nat.two_pow_pos k
      omega
/-- The sum of two numbers that are not too great is finite. -/
theorem sum_fin (s t : Bool) (m n : Nat) (i j : Int) (hi : -149 ≤ i) (hi2 : i ≤ 104) (hj : -149 ≤ j) (hm : m * 2 ^ (i + 149).toNat ≤ 2 ^ 169) (hn : n * 2 ^ (j + 149).toNat ≤ 2 ^ 169) :
    ∃ d, (Datum.number s m i).sum (.number t n j) = some d ∧ d.isNaN = false ∧ finB (single.write d) = true := by
  refine ⟨_, rfl, rfl, ?_⟩
  obtain ⟨b, hb⟩ : ∃ b, min i j = b := ⟨_, rfl⟩
  simp only [hb]
  show finB (single.nearest _ _ _) = true
  refine nearest_fin _ _ _ (by omega) ?_
  obtain ⟨u, hu⟩ : ∃ u : Nat, (i - b).toNat = u := ⟨_, rfl⟩
  obtain ⟨v, hv⟩ : ∃ v : Nat, (j - b).toNat = v := ⟨_, rfl⟩
  obtain ⟨c, hc⟩ : ∃ c : Nat, (b + 149).toNat = c := ⟨_, rfl⟩
  have e1 : (i + 149).toNat = u + c := by omega
  have e2 : (j + 149).toNat = v + c := by omega
  rw [e1, Nat.pow_add, ← Nat.mul_assoc] at hm
  rw [e2, Nat.pow_add, ← Nat.mul_assoc] at hn
  rw [hu, hv]
  have hT : (signed s m u + signed t n v).natAbs ≤ m * 2 ^ u + n * 2 ^ v := by
    unfold signed
    simp only [Nat.shiftLeft_eq]
    generalize m * 2 ^ u = A
    generalize n * 2 ^ v = B
    cases s <;> cases t <;> simp <;> omega
  have hT2 : (signed s m u + signed t n v).natAbs * 2 ^ c ≤ 2 ^ 170 := by
    calc (signed s m u + signed t n v).natAbs * 2 ^ c ≤ (m * 2 ^ u + n * 2 ^ v) * 2 ^ c := Nat.mul_le_mul_right _ hT
      _ = m * 2 ^ u * 2 ^ c + n * 2 ^ v * 2 ^ c := Nat.add_mul _ _ _
      _ ≤ 2 ^ 169 + 2 ^ 169 := Nat.add_le_add hm hn
      _ = 2 ^ 170 := by decide +kernel
  generalize (signed s m u + signed t n v).natAbs = T at hT2
  by_cases h0 : T = 0
  · subst h0
    simp
    omega
  have h4 := Nat.log2_self_le h0
  have h5 : 2 ^ (T.log2 + c) ≤ 2 ^ 170 := by
    rw [Nat.pow_add]
    exact Nat.le_trans (Nat.mul_le_mul_right _ h4) hT2
  have h6 : T.log2 + c ≤ 170 := (Nat.pow_le_pow_iff_right (by omega)).1 h5
  omega
/-- The difference of two plain numbers. -/
theorem plain_sub {x y : Nat} (hx : plainB x = true) (hy : plainB y = true) : ∃ r, fop .f32 .sub (num .f32 x) (num .f32 y) = some r ∧ finB r = true ∧ r < 4294967296 := by
  obtain ⟨s, m, i, hr, _, h1, h1', h2⟩ := plain_read hx
  obtain ⟨t, n, j, hs, _, h3, _, h4⟩ := plain_read hy
  obtain ⟨d, hd, hdn, hdf⟩ := sum_fin s (!t) m n i j h1 h1' h3 h2 h4
  have e : fop .f32 .sub (num .f32 x) (num .f32 y) = some (single.write d) := by
    rw [fop_num]
    show Format.sub single x y = _
    unfold Format.sub
    rw [hr, hs]
    show ((Datum.number s m i).sum (.number (!t) n j)).map single.write = _
    rw [hd]
    rfl
  exact ⟨_, e, hdf, write_lt d hdn⟩
end Go.Proofs.YtjhaonfdapldcaaDoor
