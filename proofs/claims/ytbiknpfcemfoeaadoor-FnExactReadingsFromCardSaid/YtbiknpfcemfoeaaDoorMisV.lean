/- Sizes of differences as values: a level less a drawdown is never -0, and a sum of sizes may begin with 0. No condition. -/
import Derived.Test.YtbiknpfcemfoeaaDoorLogI
import Derived.Test.YtbiknpfcemfoeaaDoorNumsA
namespace Go.Proofs.YtbiknpfcemfoeaaDoor
open Go Go.RowKit Ieee
set_option linter.unusedSimpArgs false
set_option linter.unusedVariables false

theorem sW : single.signWeight = 2147483648 := by decide
theorem sB : single.binade = 8388608 := by decide
theorem sI : single.infRung = 2139095040 := by decide
theorem sL : single.leastPlace = -149 := by decide
/-- Rounding does not ask for the sign. -/
theorem nearest_sign (s : Bool) (m : Nat) (p : Int) : single.nearest s m p = single.word s (single.nearest false m p) := by
  unfold Format.nearest
  split
  · simp [Format.word]
  · simp only [Format.word, Bool.false_eq_true, if_false]
    rfl
theorem nearest_top (m : Nat) (p : Int) : single.nearest false m p ≤ 2139095040 := by
  unfold Format.nearest
  split
  · simp [Format.word]
  · simp only [Format.word, Bool.false_eq_true, if_false]
    rw [← sI]
    exact Nat.min_le_right _ _
/-- A number that is rounded to nothing is nothing, where its place is not below the least one. -/
theorem nearest_zero {m : Nat} {p : Int} (hp : -149 ≤ p) (h : single.nearest false m p = 0) : m = 0 := by
  rcases Nat.eq_zero_or_pos m with h0 | h0
  · exact h0
  · exfalso
    unfold Format.nearest at h
    rw [if_neg (by omega)] at h
    simp only [Format.word, Bool.false_eq_true, if_false, sL, sB, sI] at h
    generalize hlast : max (p + (m.log2 : Int) - (single.fractionBits : Int)) (-149) = last at h
    by_cases hl : last = -149
    · subst hl
      have hd : (-149 - p).toNat = 0 := by omega
      rw [hd] at h
      unfold Toward.cut at h
      simp only [Nat.zero_min, Nat.shiftLeft_zero, Nat.div_one, Nat.mod_one, Nat.mul_zero] at h
      have hs : 0 < m <<< (p - -149).toNat := by
        rw [Nat.shiftLeft_eq]
        exact Nat.mul_pos h0 (Nat.two_pow_pos _)
      omega
    · have : 1 ≤ (last - -149).toNat := by omega
      have : 8388608 ≤ (last - -149).toNat * 8388608 := by omega
      omega
/-- What a word stands for, with its sign. -/
theorem read_sign {r : Nat} (h : r < 2147483648) : single.read (2147483648 + r) = (match single.read r with | .number _ m i => .number true m i | .infinity _ => .infinity true | .nan _ f => .nan true f) := by
  unfold Format.read
  rw [sW, sB, sI]
  have h1 : (2147483648 + r) / 2147483648 % 2 = 1 := by omega
  have h2 : (2147483648 + r) % 2147483648 = r := by omega
  have h3 : r / 2147483648 % 2 = 0 := by omega
  have h4 : r % 2147483648 = r := by omega
  simp only [h1, h2, h3, h4]
  split
  · rfl
  · split
    · rfl
    · split <;> rfl
/-- Places are not below the least one; a word of nothing is 0 or -0. -/
theorem read_place {a : Nat} {s : Bool} {m : Nat} {i : Int} (h : single.read a = .number s m i) : -149 ≤ i := by
  unfold Format.read at h
  rw [sW, sB, sI, sL] at h
  simp only at h
  split at h
  · simp only [Datum.number.injEq] at h
    omega
  · split at h
    · simp only [Datum.number.injEq] at h
      omega
    · split at h <;> cases h
theorem read_nought {a : Nat} {i : Int} (ha : a < 4294967296) (h : single.read a = .number true 0 i) : a = 2147483648 := by
  unfold Format.read at h
  rw [sW, sB, sI, sL] at h
  simp only at h
  split at h
  · simp only [Datum.number.injEq, beq_iff_eq] at h
    omega
  · split at h
    · simp only [Datum.number.injEq] at h
      omega
    · split at h <;> cases h
/-- A difference is -0 only of -0. -/
theorem sub_pos {a b r : Nat} (ha : a < 4294967296) (hn : a ≠ 2147483648) (h : fop .f32 .sub (num .f32 a) (num .f32 b) = some r) : r ≠ 2147483648 := by
  rw [fop_num] at h
  have h' : ((single.read a).sum (single.read b).opposite).map single.write = some r := h
  rintro rfl
  obtain ⟨d, hd, hw⟩ := Option.map_eq_some_iff.1 h'
  have inf : ∀ s, single.write (.infinity s) ≠ 2147483648 := by decide
  cases hra : single.read a with
  | nan s f => rw [hra] at hd; simp [Datum.sum] at hd
  | infinity s =>
    rw [hra] at hd
    cases hrb : (single.read b).opposite with
    | nan t f => rw [hrb] at hd; simp [Datum.sum] at hd
    | infinity t =>
      rw [hrb] at hd
      simp only [Datum.sum] at hd
      split at hd
      · cases hd; exact inf _ hw
      · cases hd
    | number t m i => rw [hrb] at hd; cases hd; exact inf _ hw
  | number s m i =>
    rw [hra] at hd
    cases hrb : (single.read b).opposite with
    | nan t f => rw [hrb] at hd; simp [Datum.sum] at hd
    | infinity t => rw [hrb] at hd; cases hd; exact inf _ hw
    | number t n j =>
      rw [hrb] at hd
      have hi := read_place hra
      have hj : -149 ≤ j := by
        cases hb : single.read b with
        | nan t f => rw [hb] at hrb; cases hrb
        | infinity t => rw [hb] at hrb; cases hrb
        | number t' n' j' => rw [hb] at hrb; cases hrb; exact read_place hb
      simp only [Datum.sum, Option.some.injEq] at hd
      subst hd
      generalize htot : signed s m (i - min i j).toNat + signed t n (j - min i j).toNat = tot at hw
      have hw' : single.nearest (if tot = 0 then s && t else decide (tot < 0)) tot.natAbs (min i j) = 2147483648 := hw
      rw [nearest_sign] at hw'
      have hz : single.nearest false tot.natAbs (min i j) = 0 ∧ (if tot = 0 then s && t else decide (tot < 0)) = true := by
        have ht := nearest_top tot.natAbs (min i j)
        generalize single.nearest false tot.natAbs (min i j) = q at hw' ht ⊢
        generalize (if tot = 0 then s && t else decide (tot < 0)) = sg at hw' ⊢
        unfold Format.word at hw'
        rw [sW] at hw'
        cases sg
        · simp only [Bool.false_eq_true, if_false] at hw'; omega
        · simp only [if_true] at hw'; exact ⟨by omega, rfl⟩
      have h0 := nearest_zero (by omega) hz.1
      have h1 : tot = 0 := by omega
      have hs := hz.2
      rw [if_pos h1] at hs
      simp only [Bool.and_eq_true] at hs
      obtain ⟨rfl, rfl⟩ := hs
      rw [h1] at htot
      have hm : m = 0 := by
        simp only [signed, if_true, Nat.shiftLeft_eq] at htot
        have : m * 2 ^ (i - min i j).toNat = 0 := by omega
        rcases Nat.mul_eq_zero.1 this with h | h
        · exact h
        · have := Nat.two_pow_pos (i - min i j).toNat; omega
      subst hm
      exact hn (read_nought ha hra)
theorem word_lt (q : Nat) (h : q ≤ 2139095040) : single.word true q = 2147483648 + q := by
  unfold Format.word
  rw [sW]
  rfl
theorem word_no (q : Nat) : single.word false q = q := rfl
theorem floatOf_sign (l : Int) : floatOfInt .f32 l = single.nearest (decide (l < 0)) l.natAbs 0 := by
  first | rfl | (show single.nearest _ _ _ = _; rfl)
/-- The level of a reading is a number, and not -0. -/
theorem lvV_ok (l : Int) (h : -32768 ≤ l ∧ l ≤ 32767) : ∃ c, lvV l = some c ∧ num .f32 c = some c ∧ c < 4294967296 ∧ c ≠ 2147483648 := by
  by_cases hl : l < 0
  · obtain ⟨n, hn⟩ : ∃ n : Nat, l = -(n : Int) := ⟨l.natAbs, by omega⟩
    have hn1 : 1 ≤ n ∧ n < 131072 := by omega
    obtain ⟨f1, f2⟩ := int_norm n hn1.1 hn1.2
    have hf : floatOfInt .f32 (n : Int) = single.nearest false n 0 := by
      rw [floatOf_sign, show decide ((n : Int) < 0) = false from decide_eq_false (by omega), Int.natAbs_natCast]
    rw [hf] at f1 f2
    obtain ⟨c, hc, c1, c2⟩ := div_rng (a := single.nearest false n 0) (b := 1098907648) (l1 := 127) (u1 := 144) (l2 := 131) (u2 := 131) ⟨f1, f2⟩ (by decide) (by decide) (by decide) (by decide) (by decide)
    have ha : floatOfInt .f32 l = 2147483648 + single.nearest false n 0 := by
      rw [floatOf_sign, nearest_sign, show decide (l < 0) = true by simp [hl], show l.natAbs = n by omega, word_lt _ (nearest_top _ _)]
    generalize single.nearest false n 0 = f at f1 f2 hc ha
    have hrf := norm_read (b := f) (by omega) (by omega)
    have hra : single.read (2147483648 + f) = .number true (8388608 + f % 8388608) (-149 + ((f / 8388608 - 1 : Nat) : Int)) := by
      rw [read_sign (by omega), hrf]
    rw [fop_num] at hc
    have hc' : ((single.read f).quotient (single.fractionBits + 2) (single.read 1098907648)).map single.write = some c := hc
    rw [hrf, c16_read] at hc'
    obtain ⟨d, hd, hw⟩ := Option.map_eq_some_iff.1 hc'
    simp only [Datum.quotient, if_neg (show ¬ (8388608 : Nat) = 0 by decide), Option.some.injEq] at hd
    subst hd
    have hcw : single.nearest false _ _ = c := hw
    refine ⟨2147483648 + c, ?_, ?_, by omega, by omega⟩
    · unfold lvV
      rw [ha, fop_num]
      show ((single.read (2147483648 + f)).quotient (single.fractionBits + 2) (single.read 1098907648)).map single.write = _
      rw [hra, c16_read]
      simp only [Datum.quotient, if_neg (show ¬ (8388608 : Nat) = 0 by decide), Option.map_some, Option.some.injEq]
      show single.nearest true _ _ = _
      rw [nearest_sign, hcw, word_lt _ (by omega)]
    · refine nan_num ?_
      rw [read_sign (by omega), norm_read (b := c) (by omega) (by omega)]
      rfl
  · have hfa : floatOfInt .f32 l = single.nearest false l.natAbs 0 := by
      rw [floatOf_sign, show decide (l < 0) = false by simp; omega]
    have hnan : num .f32 (single.nearest false l.natAbs 0) = some (single.nearest false l.natAbs 0) := write_numD (d := .number false l.natAbs 0) rfl
    have hneg : (single.read (single.nearest false l.natAbs 0)).neg = false := write_neg (.number false l.natAbs 0) rfl
    have hnn := (num_eq_some hnan).2
    rw [nanK_read] at hnn
    have hnn' : (single.read (single.nearest false l.natAbs 0)).isNaN = false := hnn
    unfold lvV
    rw [hfa, fop_num]
    show ∃ c, ((single.read (single.nearest false l.natAbs 0)).quotient (single.fractionBits + 2) (single.read 1098907648)).map single.write = some c ∧ _
    rw [c16_read]
    generalize single.read (single.nearest false l.natAbs 0) = d at hneg hnn'
    have fin : ∀ e : Datum, e.isNaN = false → e.neg = false → num .f32 (single.write e) = some (single.write e) ∧ single.write e < 4294967296 ∧ single.write e ≠ 2147483648 := fun e he hs => by
      refine ⟨write_numD he, ?_⟩
      have : single.write e ≤ 2139095040 := by
        cases e with
        | nan s f => simp [Datum.isNaN] at he
        | infinity s =>
          simp only [Datum.neg] at hs
          subst hs
          decide
        | number s m i =>
          simp only [Datum.neg] at hs
          subst hs
          exact nearest_top m i
      omega
    cases d with
    | nan s f => simp [Datum.isNaN] at hnn'
    | infinity s =>
      simp only [Datum.neg] at hneg
      subst hneg
      exact ⟨_, rfl, fin (.infinity false) rfl rfl⟩
    | number s m i =>
      simp only [Datum.neg] at hneg
      subst hneg
      exact ⟨_, rfl, fin (.number _ _ _) rfl rfl⟩
/-- A sum may begin with 0. -/
theorem zero_add_pos {s : Nat} (hs : s < 2147483648) (hn : num .f32 s = some s) : fop .f32 .add (num .f32 0) (num .f32 s) = some s := by
  have h := (num_eq_some hn).2
  rw [nanK_read] at h
  have h' : (single.read s).isNaN = false := h
  rw [fop_num]
  show ((single.read 0).sum (single.read s)).map single.write = some s
  rw [zero_readL]
  have hneg : (single.read s).neg = false := by
    have : (single.read s).neg = (s / 2147483648 % 2 == 1) := by
      unfold Format.read
      rw [sW]
      simp only []
      split
      · rfl
      · split
        · rfl
        · split <;> rfl
    rw [this, Nat.div_eq_of_lt hs]
    rfl
  cases hr : single.read s with
  | nan t f => rw [hr] at h'; simp [Datum.isNaN] at h'
  | infinity t =>
    rw [hr] at hneg
    simp only [Datum.neg] at hneg
    subst hneg
    have := read_inf hr
    rw [Nat.mod_eq_of_lt hs] at this
    subst this
    rfl
  | number t m i =>
    rw [hr] at hneg
    simp only [Datum.neg] at hneg
    subst hneg
    have hp := read_place hr
    simp only [Datum.sum, Option.map_some, Option.some.injEq]
    have e1 : min (-149) i = -149 := by omega
    rw [e1]
    have e2 : signed false 0 (-149 - -149).toNat = 0 := by simp [signed]
    rw [e2, Int.zero_add]
    obtain ⟨k, hk⟩ : ∃ k : Nat, (i - -149).toNat = k := ⟨_, rfl⟩
    rw [hk]
    have e3 : signed false m k = ((m <<< k : Nat) : Int) := by simp [signed]
    have e4 : ¬ ((m <<< k : Nat) : Int) < 0 := Int.not_lt.2 (Int.natCast_nonneg _)
    rw [e3]
    have hsg : (if ((m <<< k : Nat) : Int) = 0 then false && false else decide (((m <<< k : Nat) : Int) < 0)) = false := by
      split
      · rfl
      · exact decide_eq_false e4
    show single.nearest (if ((m <<< k : Nat) : Int) = 0 then false && false else decide (((m <<< k : Nat) : Int) < 0)) ((m <<< k : Nat) : Int).natAbs (-149) = s
    rw [hsg, Int.natAbs_natCast, show (-149 : Int) = i - (k : Int) by omega, nearest_read hr false k, Nat.mod_eq_of_lt hs]
    rfl

/-- Which numbers are less than 0. -/
theorem neg_lt {b : Nat} (hb : b < 4294967296) (hne : b ≠ 2147483648) (hn : nanK .f32 b = false) : (FloatKind.f32.format.order b 0 == some Ordering.lt) = decide (2147483648 ≤ b) := by
  rw [nanK_read] at hn
  have hn' : (single.read b).isNaN = false := hn
  show ((single.read b).order (single.read 0) == some Ordering.lt) = _
  rw [zero_readL]
  by_cases h : 2147483648 ≤ b
  · rw [decide_eq_true h]
    obtain ⟨r, rfl⟩ : ∃ r, b = 2147483648 + r := ⟨b - 2147483648, by omega⟩
    rw [read_sign (by omega)] at hn' ⊢
    cases hr : single.read r with
    | nan s f => rw [hr] at hn'; simp [Datum.isNaN] at hn'
    | infinity s => rfl
    | number s m i =>
      have hm : m ≠ 0 := by
        rintro rfl
        have := read_nought (a := 2147483648 + r) (by omega) (by rw [read_sign (by omega), hr])
        omega
      simp only [Datum.order, beq_iff_eq, Option.some.injEq]
      have h0 : signed false 0 (-149 - min i (-149)).toNat = 0 := by simp [signed]
      rw [h0]
      simp only [signed, if_true, Nat.shiftLeft_eq]
      have := Nat.mul_pos (Nat.pos_of_ne_zero hm) (Nat.two_pow_pos (i - min i (-149)).toNat)
      simp only [compare, compareOfLessAndEq]
      rw [if_pos (by omega)]
  · rw [decide_eq_false h]
    have hneg : (single.read b).neg = false := by
      have : (single.read b).neg = (b / 2147483648 % 2 == 1) := by
        unfold Format.read
        rw [sW]
        simp only []
        split
        · rfl
        · split
          · rfl
          · split <;> rfl
      rw [this, Nat.div_eq_of_lt (by omega)]
      rfl
    cases hr : single.read b with
    | nan s f => rw [hr] at hn'; simp [Datum.isNaN] at hn'
    | infinity s =>
      rw [hr] at hneg
      simp only [Datum.neg] at hneg
      subst hneg
      rfl
    | number s m i =>
      rw [hr] at hneg
      simp only [Datum.neg] at hneg
      subst hneg
      simp only [Datum.order, beq_eq_false_iff_ne, ne_eq, Option.some.injEq]
      have h0 : signed false 0 (-149 - min i (-149)).toNat = 0 := by simp [signed]
      rw [h0]
      have h1 : ¬ signed false m (i - min i (-149)).toNat < 0 := by
        simp only [signed, Bool.false_eq_true, if_false]
        exact Int.not_lt.2 (Int.natCast_nonneg _)
      simp only [compare, compareOfLessAndEq]
      rw [if_neg h1]
      split <;> simp
theorem neg_bits {b : Nat} (h1 : 2147483648 ≤ b) (h2 : b < 4294967296) : Op.negFloat .f32 b = b % 2147483648 := by
  obtain ⟨r, rfl⟩ : ∃ r, b = 2147483648 + r := ⟨b - 2147483648, by omega⟩
  show (2147483648 + r) ^^^ 2147483648 = _
  have hr : r < 2147483648 := by omega
  have e1 : (2147483648 + r) % 2147483648 = r := by omega
  rw [e1]
  have e2 : 2147483648 + r = 2 ^ 31 ||| r := by
    have := Nat.two_pow_add_eq_or_of_lt (i := 31) (b := r) hr 1
    simpa using this
  rw [e2, show (2147483648 : Nat) = 2 ^ 31 by rfl]
  refine Nat.eq_of_testBit_eq fun i => ?_
  rw [Nat.testBit_xor, Nat.testBit_or, Nat.testBit_two_pow]
  by_cases hi : 31 = i
  · subst hi
    rw [Nat.testBit_lt_two_pow hr]
    rfl
  · simp [hi]

set_option maxRecDepth 100000 in
theorem l03Size_any (b : Nat) (hb : b < 4294967296) (hne : b ≠ 2147483648) (w : World) : Calls Tryd.prog 64 #[.float .f32 b] w fun e w' => ∃ r, e = .returned (.float .f32 r) ∧ num .f32 r = sizeO (num .f32 b) ∧ Below w.heap.size w w' := by
  cases hn : nanK .f32 b
  · have hl := neg_lt hb hne hn
    by_cases h : 2147483648 ≤ b
    · rw [decide_eq_true h] at hl
      have R := Lib.hid (show num .f32 (Op.negFloat .f32 b) = sizeO (num .f32 b) by
        rw [neg_bits h hb, num_some hn]
        refine num_some ?_
        rw [nanK_read] at hn ⊢
        have hn' : (single.read b).isNaN = false := hn
        show (single.read (b % 2147483648)).isNaN = false
        obtain ⟨r, rfl⟩ : ∃ r, b = 2147483648 + r := ⟨b - 2147483648, by omega⟩
        rw [show (2147483648 + r) % 2147483648 = r by omega]
        rw [read_sign (by omega)] at hn'
        cases hr : single.read r with
        | nan s f => rw [hr] at hn'; simp [Datum.isNaN] at hn'
        | infinity s => rfl
        | number s m i => rfl)
      have hneg : ∀ w, (Op.unary UnOp.neg (.float .f32 b)).run Tryd.prog w = .ok (.float .f32 (Op.negFloat .f32 b)) w := fun _ => rfl
      clear h
      go_enter Tryd.func64, Tryd.ntmps64
      go_wp2
      go_ret
      exact ⟨_, rfl, R.out, Below.refl _ _⟩
    · rw [decide_eq_false h] at hl
      have R := Lib.hid (show num .f32 b = sizeO (num .f32 b) by
        rw [num_some hn]
        show some b = some (b % 2147483648)
        rw [Nat.mod_eq_of_lt (by omega)])
      clear h
      go_enter Tryd.func64, Tryd.ntmps64
      go_wp2
      go_ret
      exact ⟨b, rfl, R.out, Below.refl _ _⟩
  · have hl : (FloatKind.f32.format.order b 0 == some Ordering.lt) = false := by rw [order_nan 0 hn]; rfl
    have R := Lib.hid (show num .f32 b = sizeO (num .f32 b) by rw [num_none hn]; rfl)
    go_enter Tryd.func64, Tryd.ntmps64
    go_wp2
    go_ret
    exact ⟨b, rfl, R.out, Below.refl _ _⟩
end Go.Proofs.YtbiknpfcemfoeaaDoor
