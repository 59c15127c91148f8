/- Reading a narrow number and writing it gives it back, however it is spelt; made wide and narrow again; without its sign. No condition. · Facts on numbers: finite, the size. No condition. · The sum of a field over all cells: the model's. No condition. · SumOver: the model's and the program's. Condition (the program's): the table of math/bits is laid. · The law FnExactJointOf: for every two numbers the call returns true. Condition: none. · Drawn regions with numbers up to which NaN they are: what they need. No condition. · A walk's step that looks at the operation first. No condition. · Sizes: the model's. No condition. · WithFixed: the model's and the program's. Condition (the program's): the table of math/bits is laid. · MirrorGround: the model's. No condition. · MirrorGround: the program's. Condition: the table of math/bits is laid. -/
import Derived.Test.YtjhaonfdapldcaaDoorBase
import Derived.Test.YtjhaonfdapldcaaDoorChk
import Derived.Test.YtjhaonfdapldcaaDoorHelp
import Derived.Test.YtjhaonfdapldcaaDoorCell
import Derived.ProofKit
import Derived.Sort.CutIn
namespace Go.Proofs.YtjhaonfdapldcaaDoor

section
open Ieee

theorem cut_exact (neg : Bool) (m k : Nat) : Toward.even.cut neg (m <<< k) k = m := by
  unfold Toward.cut
  by_cases h0 : m = 0
  · subst h0
    simp
  have hl : (m <<< k).log2 = m.log2 + k := by
    have hne : m <<< k ≠ 0 := by rw [Nat.shiftLeft_eq]; exact Nat.mul_ne_zero h0 (Nat.pos_iff_ne_zero.1 (Nat.two_pow_pos k))
    refine (Nat.log2_eq_iff hne).2 ⟨?_, ?_⟩
    · rw [Nat.shiftLeft_eq, Nat.pow_add]; exact Nat.mul_le_mul_right _ (Nat.log2_self_le h0)
    · rw [Nat.shiftLeft_eq, show m.log2 + k + 1 = (m.log2 + 1) + k by omega, Nat.pow_add]; exact Nat.mul_lt_mul_of_pos_right Nat.lt_log2_self (Nat.two_pow_pos k)
  have hg : min k ((m <<< k).log2 + 2) = k := by rw [hl]; omega
  rw [hg]
  have e1 : (1 <<< k : Nat) = 2 ^ k := by simp [Nat.shiftLeft_eq]
  have hp := Nat.two_pow_pos k
  simp only [e1]
  rw [Nat.shiftLeft_eq, Nat.mul_div_cancel _ hp, Nat.mul_mod_left]
  simp

theorem log2_shift {m : Nat} (h0 : m ≠ 0) (k : Nat) : (m <<< k).log2 = m.log2 + k := by
  have hne : m <<< k ≠ 0 := by rw [Nat.shiftLeft_eq]; exact Nat.mul_ne_zero h0 (Nat.pos_iff_ne_zero.1 (Nat.two_pow_pos k))
  refine (Nat.log2_eq_iff hne).2 ⟨?_, ?_⟩
  · rw [Nat.shiftLeft_eq, Nat.pow_add]; exact Nat.mul_le_mul_right _ (Nat.log2_self_le h0)
  · rw [Nat.shiftLeft_eq, show m.log2 + k + 1 = (m.log2 + 1) + k by omega, Nat.pow_add]; exact Nat.mul_lt_mul_of_pos_right Nat.lt_log2_self (Nat.two_pow_pos k)

theorem s1 : single.signWeight = 2147483648 := by decide +kernel
theorem s2 : single.infRung = 2139095040 := by decide +kernel
theorem s3 : single.binade = 8388608 := by decide +kernel
theorem s4 : single.leastPlace = -149 := by decide +kernel
theorem s5 : single.fractionBits = 23 := rfl
theorem d1 : double.signWeight = 9223372036854775808 := by decide +kernel
theorem d2 : double.infRung = 9218868437227405312 := by decide +kernel
theorem d3 : double.binade = 4503599627370496 := by decide +kernel
theorem d4 : double.leastPlace = -1074 := by decide +kernel
theorem d5 : double.fractionBits = 52 := rfl

/-- A narrow number that is read and written, spelt in any finer way, is itself, with the sign that is written. -/
theorem nearest_read {b : Nat} {s : Bool} {m : Nat} {i : Int} (h : single.read b = .number s m i) (s' : Bool) (k : Nat) :
    single.nearest s' (m <<< k) (i - (k : Int)) = single.word s' (b % 2147483648) := by
  unfold Format.read at h
  simp only [s1, s2, s3, s4] at h
  split at h
  · rename_i hr
    simp only [Datum.number.injEq] at h
    obtain ⟨_, rfl, rfl⟩ := h
    generalize b % 2147483648 = r at hr
    unfold Format.nearest
    by_cases h0 : r = 0
    · subst h0; simp
    have hne : r <<< k ≠ 0 := by rw [Nat.shiftLeft_eq]; exact Nat.mul_ne_zero h0 (Nat.pos_iff_ne_zero.1 (Nat.two_pow_pos k))
    rw [if_neg hne]
    simp only [s2, s3, s4, s5, log2_shift h0]
    have hl : r.log2 < 23 := (Nat.log2_lt h0).2 (by simpa using hr)
    have e : max (-149 - (k : Int) + ((r.log2 + k : Nat) : Int) - ((23 : Nat) : Int)) (-149) = -149 := by omega
    rw [e]
    have e2 : (-149 - (k : Int) - -149).toNat = 0 := by omega
    have e3 : (-149 - (-149 - (k : Int))).toNat = k := by omega
    rw [e2, e3, Nat.shiftLeft_zero, cut_exact]
    congr 1
    have : ((-149 : Int) - -149).toNat = 0 := by omega
    rw [this]
    omega
  · rename_i hr0
    split at h
    · rename_i hr
      simp only [Datum.number.injEq] at h
      obtain ⟨_, rfl, rfl⟩ := h
      generalize b % 2147483648 = r at hr hr0
      unfold Format.nearest
      have h0 : 8388608 + r % 8388608 ≠ 0 := by omega
      have hne : (8388608 + r % 8388608) <<< k ≠ 0 := by rw [Nat.shiftLeft_eq]; exact Nat.mul_ne_zero h0 (Nat.pos_iff_ne_zero.1 (Nat.two_pow_pos k))
      rw [if_neg hne]
      simp only [s2, s3, s4, s5, log2_shift h0]
      have hl : (8388608 + r % 8388608).log2 = 23 := (Nat.log2_eq_iff h0).2 ⟨by omega, by omega⟩
      rw [hl]
      obtain ⟨e, he⟩ : ∃ e : Nat, e = r / 8388608 - 1 := ⟨_, rfl⟩
      rw [← he]
      have e1 : max (-149 + (e : Int) - (k : Int) + ((23 + k : Nat) : Int) - ((23 : Nat) : Int)) (-149) = -149 + (e : Int) := by omega
      rw [e1]
      have e2 : (-149 + (e : Int) - (k : Int) - (-149 + (e : Int))).toNat = 0 := by omega
      have e3 : (-149 + (e : Int) - (-149 + (e : Int) - (k : Int))).toNat = k := by omega
      have e4 : (-149 + (e : Int) - -149).toNat = e := by omega
      rw [e2, e3, e4, Nat.shiftLeft_zero, cut_exact]
      congr 1
      omega
    · split at h <;> cases h

theorem nearest_read0 {b : Nat} {s : Bool} {m : Nat} {i : Int} (h : single.read b = .number s m i) (s' : Bool) : single.nearest s' m i = single.word s' (b % 2147483648) := by
  have := nearest_read h s' 0
  simpa using this

theorem read_inf {b : Nat} {s : Bool} (h : single.read b = .infinity s) : b % 2147483648 = 2139095040 := by
  unfold Format.read at h
  simp only [s1, s2, s3, s4] at h
  split at h
  · cases h
  · split at h
    · cases h
    · split at h
      · assumption
      · cases h

/-- The wide number's word. -/
theorem double_word (s : Bool) (m : Nat) (i : Int) (hm : m < 16777216) (h1 : -149 ≤ i) (h2 : i ≤ 104) (h0 : m ≠ 0) :
    ∃ rung, rung < double.infRung ∧ double.nearest s m i = double.word s rung ∧ ∀ t, double.read (double.word t rung) = .number t (m <<< (52 - m.log2)) (i - ((52 - m.log2 : Nat) : Int)) := by
  have hl : m.log2 < 24 := (Nat.log2_lt h0).2 (by simpa using hm)
  have hlt : m < 2 ^ (m.log2 + 1) := Nat.lt_log2_self
  have hge : 2 ^ m.log2 ≤ m := Nat.log2_self_le h0
  have hk : m <<< (52 - m.log2) < 2 ^ 53 := by
    rw [Nat.shiftLeft_eq]
    calc m * 2 ^ (52 - m.log2) < 2 ^ (m.log2 + 1) * 2 ^ (52 - m.log2) := Nat.mul_lt_mul_of_pos_right hlt (Nat.two_pow_pos _)
      _ = 2 ^ 53 := by rw [← Nat.pow_add]; congr 1; omega
  have hk2 : 2 ^ 52 ≤ m <<< (52 - m.log2) := by
    rw [Nat.shiftLeft_eq]
    calc 2 ^ 52 = 2 ^ m.log2 * 2 ^ (52 - m.log2) := by rw [← Nat.pow_add]; congr 1; omega
      _ ≤ m * 2 ^ (52 - m.log2) := Nat.mul_le_mul_right _ hge
  generalize hK : m <<< (52 - m.log2) = K at hk hk2
  obtain ⟨X, hX⟩ : ∃ X : Nat, (X : Int) = i + (m.log2 : Int) - 52 - -1074 := ⟨(i + (m.log2 : Int) - 52 - -1074).toNat, by omega⟩
  have hX1 : X ≤ 1149 := by omega
  refine ⟨X * 4503599627370496 + K, by rw [d2]; omega, ?_, fun t => ?_⟩
  · unfold Format.nearest
    rw [if_neg h0]
    simp only [d2, d3, d4, d5]
    have hmax : max (i + (m.log2 : Int) - ((52 : Nat) : Int)) (-1074) = i + (m.log2 : Int) - 52 := by omega
    have hd : (i + (m.log2 : Int) - 52 - i).toNat = 0 := by omega
    have hu : (i - (i + (m.log2 : Int) - 52)).toNat = 52 - m.log2 := by omega
    have hx : (i + (m.log2 : Int) - 52 - -1074).toNat = X := by omega
    rw [hmax, hd, hu, cut_none, hK, hx, Nat.min_eq_left (by omega)]
  · have hw : double.word t (X * 4503599627370496 + K) / 9223372036854775808 % 2 = t.toNat ∧ double.word t (X * 4503599627370496 + K) % 9223372036854775808 = X * 4503599627370496 + K := by
      unfold Format.word
      rw [d1]
      cases t <;> simp <;> omega
    unfold Format.read
    simp only [d1, d2, d3, d4, hw]
    rw [if_neg (by omega), if_pos (by omega)]
    have ht : (t.toNat == 1) = t := by cases t <;> rfl
    rw [ht]
    congr 1
    · omega
    · omega

/-- A number without its sign. -/
def absN (b : Nat) : Nat := b % 2147483648
theorem absN_word (b : Nat) : single.word false (b % 2147483648) = absN b := rfl

theorem double_word0 (s : Bool) (i : Int) : double.nearest s 0 i = double.word s 0 := by
  unfold Format.nearest
  simp
theorem double_read0 (t : Bool) : double.read (double.word t 0) = .number t 0 (-1074) := by cases t <;> decide +kernel
theorem double_readInf (t : Bool) : double.read (double.word t double.infRung) = .infinity t := by cases t <;> decide +kernel

/-- Made wide, without its sign, and narrow again. -/
theorem cv_abs (b : Nat) (h : nanK .f32 b = false) : (FloatKind.f64.format.read (cv b % 9223372036854775808)).isNaN = false ∧ FloatKind.f32.format.write (FloatKind.f64.format.read (cv b % 9223372036854775808)) = absN b ∧ ((FloatKind.f64.format.read (cv b % 9223372036854775808)).isInfinity = false → (FloatKind.f32.format.read (absN b)).isInfinity = false) := by
  rw [nanK_read] at h
  have hf : FloatKind.f32.format = single := rfl
  have hd : FloatKind.f64.format = double := rfl
  rw [hf] at h
  unfold cv
  rw [hf, hd]
  have word_mod : ∀ s rung, rung < 9223372036854775808 → double.word s rung % 9223372036854775808 = double.word false rung := fun s rung hr => by
    unfold Format.word
    rw [d1]
    cases s <;> simp <;> omega
  cases hr : single.read b with
  | nan s f => rw [hr] at h; simp [Datum.isNaN] at h
  | infinity s =>
    show (double.read (double.word s double.infRung % 9223372036854775808)).isNaN = false ∧ _
    rw [show double.write (.infinity s) = double.word s double.infRung from rfl, word_mod s _ (by rw [d2]; omega), double_readInf]
    refine ⟨rfl, ?_, by simp [Datum.isInfinity]⟩
    show single.word false single.infRung = absN b
    unfold absN
    rw [read_inf hr, s2]
    rfl
  | number s m i =>
    obtain ⟨h1, h2, h3⟩ := single_number hr
    rw [show double.write (.number s m i) = double.nearest s m i from rfl]
    have hinf : (single.read (absN b)).isInfinity = false := by
      have : absN b % 2147483648 = b % 2147483648 := by unfold absN; omega
      cases hi : single.read (absN b) with
      | infinity t =>
        have e1 := read_inf hi
        rw [this] at e1
        unfold Format.read at hr
        simp only [s1, s2, s3, s4, e1] at hr
        cases hr
      | number => rfl
      | nan => rfl
    by_cases h0 : m = 0
    · subst h0
      rw [double_word0, word_mod s 0 (by omega), double_read0]
      refine ⟨rfl, ?_, fun _ => hinf⟩
      have := nearest_read0 hr false
      rw [absN_word] at this
      rw [← this]
      show single.nearest false 0 (-1074) = single.nearest false 0 i
      simp [Format.nearest]
    · obtain ⟨rung, q1, q2, q3⟩ := double_word s m i h1 h2 h3 h0
      rw [q2, word_mod s rung (by rw [d2] at q1; omega), q3]
      exact ⟨rfl, nearest_read hr false _, fun _ => hinf⟩

/-- The size, as the model finds it. -/
theorem zero_less (b : Nat) (h : nanK .f32 b = false) (hs : (FloatKind.f32.format.order b 0 == some Ordering.lt || FloatKind.f32.format.order b 0 == some Ordering.eq) = true) : fop .f32 .sub (num .f32 0) (num .f32 b) = some (absN b) := by
  rw [fop_num]
  have hn := h
  rw [nanK_read] at hn
  have hf : FloatKind.f32.format = single := rfl
  rw [hf] at hn
  show Format.sub single 0 b = _
  have hs' : ((single.read b).order (single.read 0) == some Ordering.lt || (single.read b).order (single.read 0) == some Ordering.eq) = true := hs
  have z : single.read 0 = .number false 0 (-149) := by decide +kernel
  rw [z] at hs'
  unfold Format.sub
  rw [z]
  cases hr : single.read b with
  | nan s f => rw [hr] at hn; simp [Datum.isNaN] at hn
  | infinity s =>
    rw [hr] at hs'
    cases s
    · simp [Datum.order] at hs'
    · simp only [Datum.opposite, Datum.sum, Option.map_some, Format.write, Bool.not_true]
      show some (single.word false single.infRung) = some (absN b)
      unfold absN
      rw [read_inf hr, s2]
      rfl
  | number s m i =>
    rw [hr] at hs'
    obtain ⟨h1, h2, h3⟩ := single_number hr
    have hb : min (-149) i = -149 := by omega
    simp only [Datum.opposite, Datum.sum, hb, Option.map_some, Option.some.injEq]
    obtain ⟨k, hk⟩ : ∃ k : Nat, i = -149 + k := ⟨(i + 149).toNat, by omega⟩
    subst hk
    have ek : (-149 + (k : Int) - -149).toNat = k := by omega
    have e0 : ((-149 : Int) - -149).toNat = 0 := by omega
    rw [ek, e0]
    have hz : signed false 0 0 = 0 := rfl
    rw [hz, Int.zero_add]
    have hfin := nearest_read hr false k
    rw [show -149 + (k : Int) - (k : Int) = -149 by omega, absN_word] at hfin
    by_cases h0 : m = 0
    · subst h0
      have : signed (!s) 0 k = 0 := by cases s <;> simp [signed]
      rw [this]
      simp only [if_true, Bool.false_and, Int.natAbs_zero, Format.write]
      rw [← hfin]
      simp
    · have hs1 : s = true := by
        cases s
        · exfalso
          have e2 : min (-149 + (k : Int)) (-149) = -149 := by omega
          simp only [Datum.order, e2, ek, e0, hz] at hs'
          have hp : 0 < signed false m k := by
            unfold signed
            simp only [Bool.false_eq_true, if_false]
            have : m <<< k ≠ 0 := by rw [Nat.shiftLeft_eq]; exact Nat.mul_ne_zero h0 (Nat.pos_iff_ne_zero.1 (Nat.two_pow_pos k))
            generalize m <<< k = q at this
            omega
          generalize signed false m k = q at hp hs'
          have c : compare q 0 = Ordering.gt := by
            have q1 : ¬ q < 0 := by omega
            have q2 : ¬ q = 0 := by omega
            simp [compare, compareOfLessAndEq, q1, q2]
          rw [c] at hs'
          simp at hs'
        · rfl
      subst hs1
      have hp : signed (!true) m k = ((m <<< k : Nat) : Int) := rfl
      have hne : ((m <<< k : Nat) : Int) ≠ 0 := by
        have : m <<< k ≠ 0 := by rw [Nat.shiftLeft_eq]; exact Nat.mul_ne_zero h0 (Nat.pos_iff_ne_zero.1 (Nat.two_pow_pos k))
        omega
      rw [hp, if_neg hne, Int.natAbs_natCast]
      have hd : decide (((m <<< k : Nat) : Int) < 0) = false := by
        generalize m <<< k = q
        simp
      rw [hd]
      exact hfin

/-- A number that is greater than 0 is its own size. -/
theorem absN_pos (b : Nat) (hb : b < 4294967296) (h : nanK .f32 b = false) (hs : (FloatKind.f32.format.order b 0 == some Ordering.lt || FloatKind.f32.format.order b 0 == some Ordering.eq) = false) : absN b = b := by
  have hn := h
  rw [nanK_read] at hn
  have hf : FloatKind.f32.format = single := rfl
  rw [hf] at hn
  have hs' : ((single.read b).order (single.read 0) == some Ordering.lt || (single.read b).order (single.read 0) == some Ordering.eq) = false := hs
  have z : single.read 0 = .number false 0 (-149) := by decide +kernel
  rw [z] at hs'
  have key : ((single.read b).neg = false) := by
    cases hr : single.read b with
    | nan s f => rw [hr] at hn; simp [Datum.isNaN] at hn
    | infinity s =>
      rw [hr] at hs'
      cases s
      · rfl
      · simp [Datum.order] at hs'
    | number s m i =>
      cases s
      · rfl
      · exfalso
        rw [hr] at hs'
        have hle : signed true m (i - min i (-149)).toNat ≤ signed false 0 (-149 - min i (-149)).toNat := by
          unfold signed
          simp only [if_true, Nat.zero_shiftLeft, Bool.false_eq_true, if_false]
          generalize m <<< (i - min i (-149)).toNat = q
          omega
        simp only [Datum.order] at hs'
        rcases Int.lt_or_eq_of_le hle with q | q
        · simp [compare, compareOfLessAndEq, q] at hs'
        · simp [compare, compareOfLessAndEq, q] at hs'
  have : (single.read b).neg = (b / 2147483648 % 2 == 1) := by
    unfold Format.read
    simp only [s1, s2, s3, s4]
    split
    · rfl
    · split
      · rfl
      · split <;> rfl
  rw [this] at key
  unfold absN
  simp at key
  omega
end

section
open Go.RowKit Ieee
set_option linter.unusedSimpArgs false

/-- A number is finite. -/
def finB (b : Nat) : Bool := match single.read b with
  | .number .. => true
  | _ => false
/-- The same of a number up to which NaN it is. -/
def finO : Option Nat → Bool
  | some b => finB b
  | none => false

theorem fop_sub_self (b : Nat) : fop .f32 .sub (num .f32 b) (num .f32 b) = if finB b = true then some 0 else none := by
  rw [fop_num]
  show Format.sub single b b = _
  unfold Format.sub finB
  cases h : single.read b with
  | number s m i =>
    simp only [Datum.opposite, Datum.sum, if_true, Int.min_self, Int.sub_self]
    have e : signed s m (Int.toNat 0) + signed (!s) m (Int.toNat 0) = 0 := by
      cases s <;> simp [signed] <;> omega
    rw [e]
    simp [Format.write, Format.nearest]
    cases s <;> decide +kernel
  | infinity s => cases s <;> simp [Datum.opposite, Datum.sum]
  | nan s f => simp [Datum.opposite, Datum.sum]

theorem finB_num {a b : Nat} (h : num .f32 a = num .f32 b) : finB a = finB b := by
  cases ha : nanK .f32 a
  · rw [num_some ha] at h
    cases hb : nanK .f32 b
    · rw [num_some hb] at h
      rw [Option.some.inj h]
    · rw [num_none hb] at h; cases h
  · rw [num_none ha] at h
    have hb := num_eq_none h.symm
    rw [nanK_read] at ha hb
    unfold finB
    have f : FloatKind.f32.format = single := rfl
    rw [f] at ha hb
    cases h1 : single.read a <;> cases h2 : single.read b <;> simp [h1, h2, Datum.isNaN] at ha hb ⊢

theorem finO_num (b : Nat) : finO (num .f32 b) = finB b := by
  cases hb : nanK .f32 b
  · rw [num_some hb]; rfl
  · rw [num_none hb]
    rw [nanK_read] at hb
    have f : FloatKind.f32.format = single := rfl
    rw [f] at hb
    unfold finO finB
    cases h1 : single.read b <;> simp [h1, Datum.isNaN] at hb ⊢

set_option maxRecDepth 100000 in
theorem l01Finite_any (b : Nat) (w : World) : Calls Tryd.prog 71 #[.float .f32 b] w fun e w' => e = .returned (.bool (finB b)) ∧ Quiet w w' := by
  have hs := fop_sub_self b
  have HS := Lib.hid hs
  clear hs
  go_enter Tryd.func71, Tryd.ntmps71
  go_wp2_with (refine wpList_float rfl _ _ _ _ _ rfl rfl .f32 _ _ rfl rfl ?_; intro r n hr; have HR := Lib.hid (hr.trans HS.out); clear hr)
  cases hf : finB b
  · have h := HR.out
    rw [hf] at h
    have e : (FloatKind.f32.format.order r 0 == some Ordering.eq) = false := by
      have h1 := num_eq_none h
      rw [nanK_read] at h1
      unfold Format.order
      cases h2 : FloatKind.f32.format.read r <;> simp [h2, Datum.isNaN] at h1
      cases h3 : FloatKind.f32.format.read 0 <;> rfl
    go_ret
    exact ⟨ret_bool e, n, rfl⟩
  · have h := HR.out
    rw [hf] at h
    obtain ⟨rfl, _⟩ := num_eq_some h
    go_ret
    exact ⟨ret_bool (by decide +kernel), n, rfl⟩

/-- The size of a number, up to which NaN it is. -/
def sizeO (o : Option Nat) : Option Nat := o.map absN

theorem f64bits (b : Nat) (w : World) : (callFunc 83 #[.float .f64 b]).run Tryd.prog w = .ok (.value (.int .u64 b)) w := by kernel_rfl
theorem f64from (n : Nat) (w : World) : (callFunc 84 #[.int .u64 n]).run Tryd.prog w = .ok (.value (.float .f64 n)) w := by kernel_rfl

theorem andNot63 (x : Nat) : bits .andNot .u64 (x : Int) 9223372036854775808 = ((x % 9223372036854775808 : Nat) : Int) := by
  have h1 : (BitVec.ofInt 64 (x : Int)) = BitVec.ofNat 64 x := by rw [BitVec.ofInt_natCast]
  show IntKind.u64.wrap ((BitVec.ofInt 64 (x : Int) &&& ~~~ BitVec.ofInt 64 (9223372036854775808 : Int)).toNat : Int) = _
  have hn : (BitVec.ofInt 64 (x : Int) &&& ~~~ BitVec.ofInt 64 (9223372036854775808 : Int)).toNat = x % 9223372036854775808 := by
    rw [h1, show BitVec.ofInt 64 (9223372036854775808 : Int) = BitVec.ofNat 64 9223372036854775808 from rfl]
    apply Nat.eq_of_testBit_eq
    intro i
    rw [BitVec.testBit_toNat, BitVec.getLsbD_and, BitVec.getLsbD_not, BitVec.getLsbD_ofNat, BitVec.getLsbD_ofNat, show (9223372036854775808 : Nat) = 2 ^ 63 from rfl, Nat.testBit_mod_two_pow, Nat.testBit_two_pow]
    by_cases h : i < 63
    · have e : ¬ 63 = i := by omega
      have e2 : i < 64 := by omega
      simp [h, e, e2]
    · by_cases e : i = 63
      · subst e; simp
      · have e2 : ¬ i < 64 := by omega
        simp [h, e2]
  rw [hn, IntKind.wrap_u64]
  omega

set_option maxRecDepth 100000 in
theorem abs_any (x : Nat) (w : World) : Calls Tryd.prog 92 #[.float .f64 x] w fun e w' => e = .returned (.float .f64 (x % 9223372036854775808)) ∧ w = w' := by
  have h1 := f64bits
  have h2 : ∀ w, (callFunc 84 #[.int .u64 ((x : Int) % 9223372036854775808)]).run Tryd.prog w = .ok (.value (.float .f64 (x % 9223372036854775808))) w := fun w => f64from (x % 9223372036854775808) w
  have h3 := andNot63 x
  go_enter Tryd.func92, Tryd.ntmps92
  go_wp2_with (simp only [h3])
  go_ret
  exact ⟨rfl, rfl⟩

/-- A wide number that fits made narrow. -/
theorem run_narrow (P : Program) (w : World) (src dst : TypeId) (hs : P.underlying src = some (.float .f64)) (hd : P.underlying dst = some (.float .f32)) (x : Nat)
    (hf : nanK .f64 x = false → (FloatKind.f64.format.read x).isInfinity = false → (FloatKind.f32.format.read (FloatKind.f32.format.write (FloatKind.f64.format.read x))).isInfinity = false) :
    ∃ r n, num .f32 r = (if nanK .f64 x = true then none else some (FloatKind.f32.format.write (FloatKind.f64.format.read x))) ∧ (convert src dst (.float .f64 x)).run P w = .ok (.float .f32 r) (w.drewN n) := by
  cases hn : nanK .f64 x
  · have hn' : (FloatKind.f64.format.read x).isNaN = false := by rw [← hn, nanK_read]
    refine ⟨FloatKind.f32.format.write (FloatKind.f64.format.read x), 0, ?_, ?_⟩
    · rw [if_neg (by simp)]
      exact num_some (write_notnan .f32 _ hn')
    · refine run_convert_float_float w src dst .f64 .f32 x _ (by simp [hs]) hd ?_
      unfold floatToFloatBits
      show (if FloatKind.f64 = FloatKind.f32 then _ else _) = _
      rw [if_neg (by decide)]
      have hf' := hf hn
      show (match FloatKind.f64.format.read x with | .nan _ _ => _ | .infinity s => _ | .number s m e => _) = _
      cases hr : FloatKind.f64.format.read x with
      | number s m i =>
        rw [hr] at hf'
        have := hf' rfl
        simp [FloatKind.encode, FloatKind.decode, this]
      | infinity s => rfl
      | nan s f => rw [hr] at hn'; simp [Datum.isNaN] at hn'
  · have hn' : (FloatKind.f64.format.read x).isNaN = true := by rw [← hn, nanK_read]
    refine ⟨(Question.nanConv .f32 x).cut (w.tape w.drawn (.nanConv .f32 x)), 1, ?_, ?_⟩
    · rw [if_pos rfl]
      exact num_none (cut_nan .f32 0 0 (w.tape w.drawn (.nanConv .f32 x)))
    · cases hr : FloatKind.f64.format.read x with
      | number s m i => rw [hr] at hn'; simp [Datum.isNaN] at hn'
      | infinity s => rw [hr] at hn'; simp [Datum.isNaN] at hn'
      | nan s f =>
        have hd' : FloatKind.f64.decode x = .nan s f := hr
        simp [convert, run_underlying hs, run_underlying hd, Conv.floatToFloat, hd', Question.forced, World.drew_is_drewN]

/-- A CONVERSION TO A NARROW NUMBER, IN A WALK. -/
theorem wpList_narrow {P : Program} {ops : Array Oper} {rest : List Oper} {o : Oper} {a : Act} {w : World} {Q : Exit → Act → World → Prop} (hg : o.guard = none) (src dst : TypeId) (x : Operand)
    (ho : o.op = .convert src dst x) (hs : P.underlying src = some (.float .f64)) (hd : P.underlying dst = some (.float .f32)) (b : Nat) (hx : a.eval x = .float .f64 b)
    (hf : nanK .f64 b = false → (FloatKind.f64.format.read b).isInfinity = false → (FloatKind.f32.format.read (FloatKind.f32.format.write (FloatKind.f64.format.read b))).isInfinity = false)
    (h : ∀ r n, num .f32 r = (if nanK .f64 b = true then none else some (FloatKind.f32.format.write (FloatKind.f64.format.read b))) → wpList P ops Q rest (a.put o.dst (.float .f32 r)) (w.drewN n)) : wpList P ops Q (o :: rest) a w :=
  wpList_plain hg fun K hK => by
    obtain ⟨r, n, hr, hrun⟩ := run_narrow P w src dst hs hd b hf
    unfold Oper.wp execOp
    simp only [ho, hx]
    simp only [Sem.run_bind, hrun, Result.andThen]
    exact hK _ _ (h r n hr)

theorem nan_mod (x : Nat) : nanK .f64 (x % 9223372036854775808) = nanK .f64 x := by
  rw [nanK_read, nanK_read]
  show (double.read (x % 9223372036854775808)).isNaN = (double.read x).isNaN
  unfold Format.read
  simp only [d1, Nat.mod_mod]
  split
  · rfl
  · split
    · rfl
    · split <;> rfl

theorem size_wide {b r : Nat} (h : num .f64 r = (num .f32 b).map cv) :
    (nanK .f64 (r % 9223372036854775808) = false → (FloatKind.f64.format.read (r % 9223372036854775808)).isInfinity = false → (FloatKind.f32.format.read (FloatKind.f32.format.write (FloatKind.f64.format.read (r % 9223372036854775808)))).isInfinity = false) ∧
    (if nanK .f64 (r % 9223372036854775808) = true then none else some (FloatKind.f32.format.write (FloatKind.f64.format.read (r % 9223372036854775808)))) = sizeO (num .f32 b) := by
  cases hb : nanK .f32 b
  · rw [num_some hb] at h ⊢
    obtain ⟨rfl, hn⟩ := num_eq_some (b := cv b) h
    obtain ⟨h1, h2, h3⟩ := cv_abs b hb
    rw [nanK_read, h1, h2]
    exact ⟨fun _ => h3, rfl⟩
  · rw [num_none hb] at h ⊢
    have hn := num_eq_none (k := .f64) (a := r) h
    rw [nan_mod, hn]
    exact ⟨fun h => (by cases h), rfl⟩

set_option maxRecDepth 100000 in
theorem sizeOf_any (b : Nat) (w : World) : Calls Tryd.prog 91 #[.float .f32 b] w fun e w' => ∃ r, e = .returned (.float .f32 r) ∧ num .f32 r = sizeO (num .f32 b) ∧ Quiet w w' := by
  go_enter Tryd.func91, Tryd.ntmps91
  go_wp2_with (first | (refine wpList_conv rfl _ _ _ rfl Tryd.underlying23 Tryd.underlying53 _ rfl ?_; intro x n hx; have X := Lib.hid (size_wide hx); clear hx) | (go_at_call 92; refine (abs_any x _).mono ?_; rintro e w' ⟨rfl, rfl⟩) | (refine wpList_narrow rfl _ _ _ rfl Tryd.underlying53 Tryd.underlying23 _ rfl X.out.1 ?_; intro r m hr; have HR := Lib.hid hr; clear hr))
  go_ret
  exact ⟨r, rfl, HR.out.trans X.out.2, _, rfl⟩

theorem max_read : single.read 2139095039 = .number false 16777215 104 := by decide +kernel
theorem zero_read : single.read 0 = .number false 0 (-149) := by decide +kernel
theorem le_max (t : Bool) (m : Nat) (i : Int) (h1 : m < 16777216) (h3 : i ≤ 104) : (Datum.order (.number t m i) (.number false 16777215 104) == some Ordering.lt || Datum.order (.number t m i) (.number false 16777215 104) == some Ordering.eq) = true := by
  have e2 : min i (104 : Int) = i := by omega
  have e3 : (i - i).toNat = 0 := by omega
  obtain ⟨j, hj⟩ : ∃ j : Nat, (104 - i).toNat = j := ⟨_, rfl⟩
  have hq : 1 ≤ 2 ^ j := Nat.two_pow_pos j
  have hm : m ≤ 16777215 * 2 ^ j := by
    calc m ≤ 16777215 * 1 := by omega
      _ ≤ 16777215 * 2 ^ j := Nat.mul_le_mul_left _ hq
  have hle : signed t m 0 ≤ signed false 16777215 j := by
    have h0 : m <<< 0 ≤ 16777215 <<< j := by rw [Nat.shiftLeft_eq, Nat.shiftLeft_eq]; omega
    generalize hx : m <<< 0 = x at h0
    generalize hy : 16777215 <<< j = y at h0
    unfold signed
    rw [hx, hy]
    cases t
    · show (x : Int) ≤ (y : Int)
      omega
    · show -(x : Int) ≤ (y : Int)
      omega
  simp only [Datum.order, e2, e3, hj]
  generalize signed t m 0 = x at hle
  generalize signed false 16777215 j = y at hle
  rcases Int.lt_or_eq_of_le hle with h | h
  · simp [compare, compareOfLessAndEq, h]
  · simp [compare, compareOfLessAndEq, h]

theorem absN_read (b : Nat) : single.read (absN b) = match single.read b with
    | .number _ m i => .number false m i
    | .infinity _ => .infinity false
    | .nan _ f => .nan false f := by
  have e1 : b % 2147483648 / 2147483648 % 2 = 0 := by omega
  have e2 : b % 2147483648 % 2147483648 = b % 2147483648 := by omega
  unfold Format.read absN
  simp only [s1, s2, s3, s4, e1, e2]
  split
  · rfl
  · split
    · rfl
    · split <;> rfl
theorem size_le {b r : Nat} (h : num .f32 r = sizeO (num .f32 b)) : (FloatKind.f32.format.order r 2139095039 == some Ordering.lt || FloatKind.f32.format.order r 2139095039 == some Ordering.eq) = finB b := by
  show ((single.read r).order (single.read 2139095039) == some Ordering.lt || (single.read r).order (single.read 2139095039) == some Ordering.eq) = finB b
  rw [max_read]
  cases hb : nanK .f32 b
  · rw [num_some hb] at h
    obtain ⟨rfl, _⟩ := num_eq_some (b := absN b) h
    rw [absN_read]
    unfold finB
    cases h : single.read b with
    | number s m i =>
      obtain ⟨h1, _, h3⟩ := single_number h
      exact le_max false m i h1 h3
    | infinity s => rfl
    | nan s f => rfl
  · rw [num_none hb] at h
    have hn := num_eq_none (k := .f32) (a := r) h
    rw [nanK_read] at hn hb
    have hf : FloatKind.f32.format = single := rfl
    rw [hf] at hn hb
    unfold finB
    cases h1 : single.read r <;> cases h2 : single.read b <;> simp [h1, h2, Datum.isNaN] at hn hb ⊢
    simp [Datum.order]

theorem isFinite_any (b : Nat) (w : World) : Calls Tryd.prog 78 #[.float .f32 b] w fun e w' => e = .returned (.bool (finB b)) ∧ Quiet w w' := by
  go_enter Tryd.func78, Tryd.ntmps78
  go_wp2_with (go_at_call 91; refine (sizeOf_any b _).mono ?_; rintro e w' ⟨r, rfl, hr, hq⟩; have hs := Lib.hid (size_le hr); clear hr)
  go_ret
  exact ⟨ret_bool hs.out, hq⟩

/-- A number and its code, as a result. -/
def FI (b : Nat) (n : Int) : Value := .tuple #[.float .f32 b, .int .i64 n]
theorem ifFinite_any (b : Nat) (w : World) : Calls Tryd.prog 48 #[.float .f32 b] w fun e w' => e = .returned (if finB b = true then FI b 0 else FI 0 4) ∧ Quiet w w' := by
  cases hf : finB b
  · have hf' := Lib.hid hf
    clear hf
    go_enter Tryd.func48, Tryd.ntmps48
    go_wp2_with (go_at_call 78; have hc := (isFinite_any b w); rw [hf'.out] at hc; refine hc.mono ?_; clear hc; rintro e w' ⟨rfl, hq⟩)
    go_ret2
    exact ⟨rfl, hq⟩
  · have hf' := Lib.hid hf
    clear hf
    go_enter Tryd.func48, Tryd.ntmps48
    go_wp2_with (go_at_call 78; have hc := (isFinite_any b w); rw [hf'.out] at hc; refine hc.mono ?_; clear hc; rintro e w' ⟨rfl, hq⟩)
    go_ret2
    exact ⟨rfl, hq⟩
end

section
open Go.RowKit
set_option linter.unusedSimpArgs false

/-- The sum over the first cells, up to which NaN it is: from the number at 0 on. -/
def sumTo (G : Gd) (f : Nat → Nat) : Nat → Option Nat
  | 0 => num .f32 (f 0)
  | k + 1 => if isB G (k + 1) = true then fop .f32 .add (sumTo G f k) (num .f32 (f (k + 1))) else sumTo G f k

theorem num_some_num {o : Option Nat} {r : Nat} (h : num .f32 r = o) : num .f32 r = o := h

/-- A number that is told, up to which NaN it is; nothing is written. -/
def GivesN (o : Option Nat) (w : World) (e : Ending) (w' : World) : Prop := ∃ r, e = .returned (.float .f32 r) ∧ num .f32 r = o ∧ Quiet w w'

end

section
open Go.RowKit Go.Shelf
attribute [local go_sem] Oper.semAt_some run_store_float
set_option linter.unusedSimpArgs false

theorem bits_andNot (a b : Nat) (ha : a < 18446744073709551616) (hb : b < 18446744073709551616) : ∃ n : Nat, bits .andNot .u64 (a : Int) (b : Int) = (n : Int) ∧ n < 18446744073709551616 ∧ ∀ i, i < 64 → n.testBit i = (a.testBit i && !b.testBit i) := by
  have h1 : (BitVec.ofInt 64 (a : Int)).toNat = a := by
    rw [BitVec.ofInt_natCast, BitVec.toNat_ofNat]; exact Nat.mod_eq_of_lt (by omega)
  have h2 : (BitVec.ofInt 64 (b : Int)).toNat = b := by
    rw [BitVec.ofInt_natCast, BitVec.toNat_ofNat]; exact Nat.mod_eq_of_lt (by omega)
  refine ⟨(BitVec.ofInt 64 (a : Int) &&& ~~~ BitVec.ofInt 64 (b : Int)).toNat, ?_, ?_, fun i hi => ?_⟩
  · show IntKind.u64.wrap ((BitVec.ofInt 64 (a : Int) &&& ~~~ BitVec.ofInt 64 (b : Int)).toNat : Int) = _
    have := (BitVec.ofInt 64 (a : Int) &&& ~~~ BitVec.ofInt 64 (b : Int)).isLt
    rw [IntKind.wrap_u64]
    omega
  · have := (BitVec.ofInt 64 (a : Int) &&& ~~~ BitVec.ofInt 64 (b : Int)).isLt
    omega
  · rw [BitVec.testBit_toNat, BitVec.getLsbD_and, BitVec.getLsbD_not, ← BitVec.testBit_toNat, ← BitVec.testBit_toNat, h1, h2]
    simp [hi]

/-- A ground and a field are boxed. -/
theorem gf_box (G : Gd) (f : Nat → Nat) (t u : TypeId) (w : World) : ∃ W, (w.alloc (.cells (Grd G) t)).alloc (.cells (Fld f) u) = W ∧ W.heap.size = w.heap.size + 1 + 1 ∧ GBox W w.heap.size G ∧ W.rangeAt (w.heap.size + 1) 0 (Fld f).toList ∧ Below w.heap.size w W := by
  obtain ⟨W1, h1, z1, g1, b1⟩ := gbox1 G t w
  have b2 : Below W1.heap.size W1 (W1.alloc (.cells (Fld f) u)) := (Below.refl _ _).alloc (Nat.le_refl _) _
  rw [h1]
  exact ⟨_, rfl, by simp [z1], g1.below b2 (by omega), by rw [← z1]; exact rangeAt_row (heap_alloc_last W1 _), b1.trans (b2.mono (by omega))⟩


/-- A store of one number. -/
theorem store_f32 {P : Program} {op : Oper} {a : Act} {ty : TypeId} {x y : Operand} {b o v : Nat} {w : World} (ho : op.op = .store ty x y) (hx : a.eval x = .pointer (some ⟨b, o, none⟩)) (hy : a.eval y = .float .f32 v) (hi : (P.info? ty).map (·.size) = some 1) {u : Value} (hu : w.cell? ⟨b, o, none⟩ = some u) (hf : w.frozen? ⟨b, o, none⟩ = false) :
    (execOp a.eval op).run P w = .ok .skip (w.setCell ⟨b, o, none⟩ (.float .f32 v)) := by
  have hs : (sizeOf ty).run P w = .ok 1 w := by
    cases hq : P.info? ty with
    | none => simp [hq] at hi
    | some i => simp [hq] at hi; simp [sizeOf, typeInfo, hq, hi]
  unfold execOp
  simp only [ho, hx, hy]
  go_simp
theorem infoF32 : (Tryd.prog.info? 23).map (·.size) = some 1 := by kernel_rfl

/-- The sum over a list. -/
def sumL (f : Nat → Nat) (l : List Nat) : Option Nat := l.foldl (fun o i => fop .f32 .add o (num .f32 (f i))) (num .f32 (f 0))
theorem sumL_snoc (f : Nat → Nat) (l : List Nat) (i : Nat) : sumL f (l ++ [i]) = fop .f32 .add (sumL f l) (num .f32 (f i)) := by simp [sumL]
theorem sumL_bits (G : Gd) (f : Nat → Nat) (m : Nat) (h : ∀ i, i < 64 → m.testBit i = (isB G i && decide (i ≠ 0))) : sumL f (bitsL m) = sumTo G f 63 := by
  have key : ∀ k, k ≤ 63 → sumL f ((List.range (k + 1)).filter fun i => m.testBit i) = sumTo G f k := by
    intro k
    induction k with
    | zero =>
      intro _
      have h0 := h 0 (by omega)
      simp at h0
      simp [List.range_succ, h0, sumTo, sumL]
    | succ k ih =>
      intro hk
      rw [List.range_succ, List.filter_append]
      have h1 := h (k + 1) (by omega)
      have h2 : m.testBit (k + 1) = isB G (k + 1) := by rw [h1]; simp
      cases hi : isB G (k + 1)
      · rw [hi] at h2
        rw [List.filter_cons, h2, if_neg (by simp), List.filter_nil, List.append_nil, ih (by omega)]
        simp [sumTo, hi]
      · rw [hi] at h2
        rw [List.filter_cons, h2, if_pos rfl, List.filter_nil, sumL_snoc, ih (by omega)]
        simp [sumTo, hi]
  exact key 63 (by omega)

/-- A number that must be finite, and its code. -/
def finV : Option Nat → Value
  | some b => if finB b = true then FI b 0 else FI 0 4
  | none => FI 0 4
theorem finV_num {r : Nat} {o : Option Nat} (h : num .f32 r = o) : (if finB r = true then FI r 0 else FI 0 4) = finV o := by
  subst h
  cases hn : nanK .f32 r
  · rw [num_some hn]; rfl
  · rw [num_none hn]
    have : finB r = false := by
      rw [← finO_num, num_none hn]; rfl
    rw [this]
    rfl
def sumV (G : Gd) (f : Nat → Nat) : Value := if validB G = true then finV (sumTo G f 63) else FI 0 1

end

section
open Go.RowKit Go.ChangeShapes Go.WideShapes Go.ChangeAt

/-- Greater than 0, as the walk spells it. -/
def pos (a : Nat) : Bool := FloatKind.f32.format.order a 0 == some Ordering.gt
/-- The joint of two numbers, up to which NaN it is. -/
def joint (a b : Nat) : Option Nat :=
  if (pos a && pos b) = true then fop .f32 .quo (fop .f32 .mul (num .f32 1073741824) (fop .f32 .mul (num .f32 a) (num .f32 b))) (fop .f32 .add (num .f32 a) (num .f32 b)) else num .f32 0

/-- A number that is o, up to which NaN it is; only answers have been drawn. -/
def Gives (o : Option Nat) (w : World) (e : Ending) (w' : World) : Prop := ∃ r n, e = .returned (.float .f32 r) ∧ num .f32 r = o ∧ w' = w.drewN n

set_option maxRecDepth 100000 in
theorem l01Joint_any (a b : Nat) (w : World) : Calls Tryd.prog 82 #[.float .f32 a, .float .f32 b] w (Gives (joint a b) w) := by
  cases ha : pos a <;> cases hb : pos b
  · have hj : joint a b = num .f32 0 := by simp [joint, ha, hb]
    rw [hj]; clear hj; unfold pos at ha hb
    go_enter Tryd.func82, Tryd.ntmps82
    go_wp2
    go_ret
    exact ⟨0, 0, rfl, rfl, rfl⟩
  · have hj : joint a b = num .f32 0 := by simp [joint, ha, hb]
    rw [hj]; clear hj; unfold pos at ha hb
    go_enter Tryd.func82, Tryd.ntmps82
    go_wp2
    go_ret
    exact ⟨0, 0, rfl, rfl, rfl⟩
  · have hj : joint a b = num .f32 0 := by simp [joint, ha, hb]
    rw [hj]; clear hj; unfold pos at ha hb
    go_enter Tryd.func82, Tryd.ntmps82
    go_wp2
    go_ret
    exact ⟨0, 0, rfl, rfl, rfl⟩
  · have hj : joint a b = fop .f32 .quo (fop .f32 .mul (num .f32 1073741824) (fop .f32 .mul (num .f32 a) (num .f32 b))) (fop .f32 .add (num .f32 a) (num .f32 b)) := by simp [joint, ha, hb]
    have Hj := Lib.hid hj
    clear hj; unfold pos at ha hb
    go_enter Tryd.func82, Tryd.ntmps82
    have t1 : True := trivial
    have t2 : True := trivial
    have t3 : True := trivial
    go_wp2_with (first | (have _t := t1; refine wpList_float rfl _ _ _ _ _ rfl rfl .f32 _ _ rfl rfl ?_; intro r1 n1 hr1; have H1 := Lib.hid hr1; clear t1 hr1) | (have _t := t2; refine wpList_float rfl _ _ _ _ _ rfl rfl .f32 _ _ rfl rfl ?_; intro r2 n2 hr2; have H2 := Lib.hid hr2; clear t2 hr2) | (have _t := t3; refine wpList_float rfl _ _ _ _ _ rfl rfl .f32 _ _ rfl rfl ?_; intro r3 n3 hr3; have H3 := Lib.hid hr3; clear t3 hr3) | (refine wpList_float rfl _ _ _ _ _ rfl rfl .f32 _ _ rfl rfl ?_; intro r4 n4 hr4; have H4 := Lib.hid hr4; clear hr4))
    go_ret
    exact ⟨r4, _, rfl, by rw [Hj.out, H4.out, H3.out, H2.out, H1.out], rfl⟩

set_option maxRecDepth 100000 in
theorem jointOf_any (a b : Nat) (w : World) : Calls Tryd.prog 62 #[.float .f32 a, .float .f32 b] w (Gives (joint a b) w) := by
  cases ha : pos a <;> cases hb : pos b
  · have hj : joint a b = num .f32 0 := by simp [joint, ha, hb]
    rw [hj]; clear hj; unfold pos at ha hb
    go_enter Tryd.func62, Tryd.ntmps62
    go_wp2
    go_ret
    exact ⟨0, 0, rfl, rfl, rfl⟩
  · have hj : joint a b = num .f32 0 := by simp [joint, ha, hb]
    rw [hj]; clear hj; unfold pos at ha hb
    go_enter Tryd.func62, Tryd.ntmps62
    go_wp2
    go_ret
    exact ⟨0, 0, rfl, rfl, rfl⟩
  · have hj : joint a b = num .f32 0 := by simp [joint, ha, hb]
    rw [hj]; clear hj; unfold pos at ha hb
    go_enter Tryd.func62, Tryd.ntmps62
    go_wp2
    go_ret
    exact ⟨0, 0, rfl, rfl, rfl⟩
  · have hj : joint a b = fop .f32 .quo (fop .f32 .mul (num .f32 1073741824) (fop .f32 .mul (num .f32 a) (num .f32 b))) (fop .f32 .add (num .f32 a) (num .f32 b)) := by simp [joint, ha, hb]
    have Hj := Lib.hid hj
    clear hj; unfold pos at ha hb
    go_enter Tryd.func62, Tryd.ntmps62
    have t1 : True := trivial
    have t2 : True := trivial
    have t3 : True := trivial
    go_wp2_with (first | (have _t := t1; refine wpList_float rfl _ _ _ _ _ rfl rfl .f32 _ _ rfl rfl ?_; intro r1 n1 hr1; have H1 := Lib.hid hr1; clear t1 hr1) | (have _t := t2; refine wpList_float rfl _ _ _ _ _ rfl rfl .f32 _ _ rfl rfl ?_; intro r2 n2 hr2; have H2 := Lib.hid hr2; clear t2 hr2) | (have _t := t3; refine wpList_float rfl _ _ _ _ _ rfl rfl .f32 _ _ rfl rfl ?_; intro r3 n3 hr3; have H3 := Lib.hid hr3; clear t3 hr3) | (refine wpList_float rfl _ _ _ _ _ rfl rfl .f32 _ _ rfl rfl ?_; intro r4 n4 hr4; have H4 := Lib.hid hr4; clear hr4))
    go_ret
    exact ⟨r4, _, rfl, by rw [Hj.out, H4.out, H3.out, H2.out, H1.out], rfl⟩

end

section
open Go.RowKit
set_option linter.unusedSimpArgs false

theorem joint_ex (a b : Nat) : ∃ r, num .f32 r = joint a b := by
  unfold joint
  split
  · exact fop_ex _ _ rfl _ _ (fop_ex _ _ rfl _ _ (num_ex _ _) (fop_ex _ _ rfl _ _ (num_ex _ _) (num_ex _ _))) (fop_ex _ _ rfl _ _ (num_ex _ _) (num_ex _ _))
  · exact num_ex _ _
theorem givesN_of {o : Option Nat} {w : World} {e : Ending} {w' : World} (h : Gives o w e w') : GivesN o w e w' := by
  obtain ⟨r, n, h1, h2, h3⟩ := h
  exact ⟨r, h1, h2, n, h3⟩
end

section
open Go.RowKit
section
variable {F : Fence} {n : Nat} {P : Program} {ops : Array Oper} {rest : List Oper} {o : Oper} {a : Act} {w : World} {Q : Exit → Act → World → Prop}
theorem st_stage (ty : TypeId) {x y : Operand} (_ : o.op = .store ty x y) (h : wpList P ops Q (o :: rest) a w) : wpList P ops Q (o :: rest) a w := h
theorem stI_stage (ty : TypeId) {x y : Operand} (_ : o.op = .store ty x y) (h : wpListIn F n P ops Q (o :: rest) a w) : wpListIn F n P ops Q (o :: rest) a w := h
theorem ld_stage (ty : TypeId) {x : Operand} (_ : o.op = .load ty x) (h : wpList P ops Q (o :: rest) a w) : wpList P ops Q (o :: rest) a w := h
theorem ldI_stage (ty : TypeId) {x : Operand} (_ : o.op = .load ty x) (h : wpListIn F n P ops Q (o :: rest) a w) : wpListIn F n P ops Q (o :: rest) a w := h
end
end

section
open Go.RowKit
set_option linter.unusedSimpArgs false
set_option linter.unusedVariables false

theorem absN_lt (b : Nat) : absN b < 4294967296 := by unfold absN; omega
end

section
open Go.RowKit
set_option linter.unusedSimpArgs false

/-- Another mask. -/
def fixX (x : Int) (k : Nat) (b : Bool) : Int := if b = true then bits .or .u64 x (IntKind.u64.wrap (2 ^ k)) else bits .andNot .u64 x (IntKind.u64.wrap (2 ^ k))

theorem pow_lt (k : Nat) (hk : k < 64) : 2 ^ k < 18446744073709551616 := by
  have : 2 ^ k < 2 ^ 64 := Nat.pow_lt_pow_right (by decide) hk
  simpa using this
/-- The bit is struck, and set again. -/
theorem or_andNot (x k : Nat) (hx : x < 18446744073709551616) (hk : k < 64) :
    bits .or .u64 (bits .andNot .u64 (x : Int) (IntKind.u64.wrap (2 ^ k))) (IntKind.u64.wrap (2 ^ k)) = bits .or .u64 (x : Int) (IntKind.u64.wrap (2 ^ k)) := by
  rw [wrap_pow k hk]
  obtain ⟨n, h1, h2, h3⟩ := bits_andNot x (2 ^ k) hx (pow_lt k hk)
  rw [h1, bits_or_u64_nat n _ h2 (pow_lt k hk), bits_or_u64_nat x _ hx (pow_lt k hk)]
  congr 1
  apply Nat.eq_of_testBit_eq
  intro i
  rw [Nat.testBit_or, Nat.testBit_or]
  by_cases hi : i < 64
  · rw [h3 i hi]
    cases x.testBit i <;> cases (2 ^ k).testBit i <;> rfl
  · have hb : ∀ m : Nat, m < 18446744073709551616 → m.testBit i = false := fun m hm => Nat.testBit_lt_two_pow (Nat.lt_of_lt_of_le (by simpa using hm : m < 2 ^ 64) (Nat.pow_le_pow_right (by decide) (by omega)))
    rw [hb n h2, hb x hx]
theorem fixX_has (x k : Nat) (b : Bool) (hx : x < 18446744073709551616) (hk : k < 64) : IntKind.u64.has (fixX x k b) := by
  unfold fixX
  rw [wrap_pow k hk]
  split
  · rw [bits_or_u64_nat x _ hx (pow_lt k hk)]
    have : x ||| 2 ^ k < 2 ^ 64 := Nat.or_lt_two_pow (by simpa using hx) (by simpa using pow_lt k hk)
    have h2 : x ||| 2 ^ k < 18446744073709551616 := by simpa using this
    generalize x ||| 2 ^ k = n at h2
    exact ⟨(by show (0 : Int) ≤ n; omega), (by show (n : Int) ≤ 18446744073709551615; omega)⟩
  · obtain ⟨n, h1, h2, _⟩ := bits_andNot x (2 ^ k) hx (pow_lt k hk)
    rw [h1]
    exact ⟨(by show (0 : Int) ≤ n; omega), (by show (n : Int) ≤ 18446744073709551615; omega)⟩

theorem shl_op {op : Oper} {a : Act} {x y : Operand} {k : Nat} {t : TypeId} (ho : op.op = .binOp .shl 25 x y t) (hx : a.eval x = .int .u64 1) (hy : a.eval y = .int .i64 k) (hk : k < 64) (w : World) :
    (execOp a.eval op).run Tryd.prog w = .ok (.value (.int .u64 (IntKind.u64.wrap (2 ^ k)))) w := by
  unfold execOp
  simp only [ho, hx, hy]
  go_simp
/-- A store of bits. -/
theorem store_u64 {P : Program} {op : Oper} {a : Act} {ty : TypeId} {x y : Operand} {b o : Nat} {v : Int} {w : World} (ho : op.op = .store ty x y) (hx : a.eval x = .pointer (some ⟨b, o, none⟩)) (hy : a.eval y = .int .u64 v) (hi : (P.info? ty).map (·.size) = some 1) {u : Value} (hu : w.cell? ⟨b, o, none⟩ = some u) (hf : w.frozen? ⟨b, o, none⟩ = false) :
    (execOp a.eval op).run P w = .ok .skip (w.setCell ⟨b, o, none⟩ (.int .u64 v)) := by
  have hs : (sizeOf ty).run P w = .ok 1 w := by
    cases hq : P.info? ty with
    | none => simp [hq] at hi
    | some i => simp [hq] at hi; simp [sizeOf, typeInfo, hq, hi]
  unfold execOp
  simp only [ho, hx, hy]
  go_simp
theorem infoU64 : (Tryd.prog.info? 25).map (·.size) = some 1 := by kernel_rfl

/-- The ground that WithFixed makes. -/
def fixG (G : Gd) (c : Int) (b : Bool) : Gd := { G with x := fixX G.x c.toNat b }
theorem ok_x {G : Gd} {k : Nat} {b : Bool} (hG : GdOk G) (hk : k < 64) : GdOk (fixG G k b) := by
  have h := hG.x'
  obtain ⟨x, hx⟩ : ∃ x : Nat, G.x = x := ⟨G.x.toNat, by omega⟩
  refine ⟨hG.wide, hG.high, ?_, hG.c, hG.g, hG.h⟩
  show IntKind.u64.has (fixX G.x (Int.toNat (k : Int)) b)
  rw [hx, Int.toNat_natCast]
  exact fixX_has x k b (by omega) hk

end

section
open Go.RowKit
attribute [local go_sem] run_store_float
set_option linter.unusedSimpArgs false

/-- The mirrored number of a cell. -/
def mir (G : Gd) (i : Nat) : Nat := i - i % 8 + (G.wide.toNat - 1 - i % 8)

/-- A bit of a mask, moved. -/
def mvX (G : Gd) (x : Nat) (i : Nat) : Nat := if G.x.toNat.testBit i = true then x ||| 2 ^ mir G i else x
/-- One cell is mirrored. -/
def mirS (G : Gd) (H : Gd) (i : Nat) : Gd := { H with c := upd H.c (mir G i) (G.c i), g := upd H.g (mir G i) (G.g i), h := upd H.h (mir G i) (G.h i), x := (mvX G H.x.toNat i : Nat) }
def mirL (G : Gd) (l : List Nat) : Gd := l.foldl (mirS G) { G with x := 0 }
theorem mirS_eq {G H : Gd} {k j : Nat} {V : Int} (hj : mir G k = j) (hV : V = ((mvX G H.x.toNat k : Nat) : Int)) : mirS G H k = { H with c := upd H.c j (G.c k), g := upd H.g j (G.g k), h := upd H.h j (G.h k), x := V } := by
  subst hj
  subst hV
  rfl
theorem mirL_snoc (G : Gd) (l : List Nat) (i : Nat) : mirL G (l ++ [i]) = mirS G (mirL G l) i := by simp [mirL]

theorem mir_lt {G : Gd} {i : Nat} (hv : validB G = true) (hi : i < 64) (hb : isB G i = true) : mir G i < 64 ∧ mir G i = i - i % 8 + (G.wide.toNat - 1 - i % 8) ∧ i % 8 < G.wide.toNat ∧ i - i % 8 + 8 ≤ 64 := by
  obtain ⟨v1, v2, v3, v4⟩ := valid_ext hv
  simp only [isB, Bool.and_eq_true, decide_eq_true_eq] at hb
  unfold mir
  omega

/-- The list of the cells, in order. -/
def cellL (G : Gd) : List Nat := (List.range 64).filter (isB G)
theorem cellL_bits (G : Gd) : bitsL (cellsN G) = cellL G := by
  unfold bitsL cellL
  refine List.filter_congr fun i hi => ?_
  rw [cellsN_testBit]
  simp at hi
  simp [hi]
/-- The first of them. -/
def cellTo (G : Gd) (k : Nat) : List Nat := (List.range k).filter (isB G)
theorem cellTo_succ (G : Gd) (k : Nat) : cellTo G (k + 1) = if isB G k = true then cellTo G k ++ [k] else cellTo G k := by
  unfold cellTo
  rw [List.range_succ, List.filter_append]
  cases h : isB G k <;> simp [h]

def mirG (G : Gd) : Gd := if validB G = true then mirL G (cellL G) else zG
def mirN (G : Gd) : Int := if validB G = true then 0 else 1

/-- Of one bit of a mask, moved, as the model computes it. -/
theorem mv_val (X x i j : Nat) (hX : X < 18446744073709551616) (hj : j < 64) :
    bits .or .u64 (X : Int) (IntKind.u64.wrap (((x : Int) / 2 ^ i).tmod 2 * 2 ^ j)) = (((if x.testBit i = true then X ||| 2 ^ j else X) : Nat) : Int) := by
  have e1 : ((x : Int) / 2 ^ i).tmod 2 = ((x / 2 ^ i % 2 : Nat) : Int) := by
    rw [Int.tmod_eq_emod_of_nonneg (Int.ediv_nonneg (by omega) (by have := Int.pow_pos (n := 2) (m := i) (by omega); omega))]
    simp
  have e2 : x / 2 ^ i % 2 = (x.testBit i).toNat := by
    rw [Nat.testBit_eq_decide_div_mod_eq]
    have : x / 2 ^ i % 2 = 0 ∨ x / 2 ^ i % 2 = 1 := by omega
    rcases this with h | h <;> simp [h]
  rw [e1, e2]
  cases x.testBit i
  · have : IntKind.u64.wrap (((false.toNat : Nat) : Int) * 2 ^ j) = ((0 : Nat) : Int) := by simp [IntKind.wrap_u64]
    rw [this, bits_or_u64_nat X 0 hX (by omega)]
    simp
  · have : IntKind.u64.wrap (((true.toNat : Nat) : Int) * 2 ^ j) = ((2 ^ j : Nat) : Int) := by
      rw [← wrap_pow j hj]; simp
    rw [this, bits_or_u64_nat X _ hX (by have : 2 ^ j < 2 ^ 64 := Nat.pow_lt_pow_right (by decide) hj; simpa using this)]
    simp

/-- Masks stay within their kind. -/
theorem mirL_x (G : Gd) (hv : validB G = true) : ∀ (l : List Nat), (∀ i ∈ l, i < 64 ∧ isB G i = true) → ∃ n : Nat, (mirL G l).x = n ∧ n < 18446744073709551616 := by
  intro l
  rw [← List.reverse_reverse l]
  induction l.reverse with
  | nil => intro _; exact ⟨0, rfl, by omega⟩
  | cons i r ih =>
    intro h
    rw [List.reverse_cons] at h ⊢
    obtain ⟨n, h1, h2⟩ := ih (fun j hj => h j (by simp at hj ⊢; exact .inl hj))
    obtain ⟨m1, _⟩ := mir_lt hv (h i (by simp)).1 (h i (by simp)).2
    rw [mirL_snoc]
    refine ⟨mvX G (mirL G r.reverse).x.toNat i, rfl, ?_⟩
    rw [h1, Int.toNat_natCast]
    unfold mvX
    split
    · have : n ||| 2 ^ mir G i < 2 ^ 64 := Nat.or_lt_two_pow (by simpa using h2) (Nat.pow_lt_pow_right (by decide) m1)
      simpa using this
    · exact h2

theorem cellTo_ok (G : Gd) (k : Nat) (hk : k ≤ 64) : ∀ i ∈ cellTo G k, i < 64 ∧ isB G i = true := fun i hi => by
  simp only [cellTo, List.mem_filter, List.mem_range] at hi
  exact ⟨by omega, hi.2⟩
/-- The mask of a round. -/
theorem mv_ground (G : Gd) (k j : Nat) (hv : validB G = true) (hk : k < 64) (hj : mir G k = j) (hj2 : j < 64) (hG : GdOk G) :
    bits .or .u64 (mirL G (cellTo G k)).x (IntKind.u64.wrap ((G.x / 2 ^ k).tmod 2 * 2 ^ j)) = ((mvX G (mirL G (cellTo G k)).x.toNat k : Nat) : Int) := by
  obtain ⟨n, h1, h2⟩ := mirL_x G hv _ (cellTo_ok G k (by omega))
  have hx := hG.x'
  obtain ⟨x, h3⟩ : ∃ x : Nat, G.x = x := ⟨G.x.toNat, by omega⟩
  rw [h1, h3, mv_val n x k j h2 hj2, Int.toNat_natCast]
  unfold mvX
  rw [h3, hj, Int.toNat_natCast]

end

section
open Go.RowKit Go.Shelf
attribute [local go_sem] Oper.semAt_some run_store_float
set_option linter.unusedSimpArgs false

theorem KeepsOthers.of_below' {W W' : World} (h : Below W.heap.size W W') : KeepsOthers W W' := ⟨h.size, fun k _ hk _ => (h.block k (Array.getElem?_eq_some_iff.1 hk).1).trans hk⟩

theorem mirS_no {G H : Gd} {k j n : Nat} (hj : mir G k = j) (hb : G.x.toNat.testBit k = false) (hn : H.x = (n : Int)) : mirS G H k = { H with c := upd H.c j (G.c k), g := upd H.g j (G.g k), h := upd H.h j (G.h k) } := by
  subst hj
  have e : ((H.x.toNat : Nat) : Int) = H.x := by rw [hn, Int.toNat_natCast]
  unfold mirS mvX
  rw [if_neg (by simp [hb]), e]
theorem mv_yes {G H : Gd} {k j n : Nat} (hj : mir G k = j) (hb : G.x.toNat.testBit k = true) (hn : H.x = (n : Int)) (h1 : n < 18446744073709551616) (h2 : j < 64) : bits .or .u64 H.x (IntKind.u64.wrap (2 ^ j)) = ((mvX G H.x.toNat k : Nat) : Int) := by
  rw [hn, or_bit n j h1 h2, Int.toNat_natCast]
  unfold mvX
  rw [if_pos hb, hj]

/-- A bit of a mask, as a test. -/
theorem bit_test (x k : Nat) (hx : x < 18446744073709551616) : (bits .and .u64 ((x : Int) / 2 ^ k) 1 == 1) = x.testBit k := by
  have e : (x : Int) / 2 ^ k = ((x / 2 ^ k : Nat) : Int) := by simp
  have h1 : x / 2 ^ k < 18446744073709551616 := Nat.lt_of_le_of_lt (Nat.div_le_self _ _) hx
  rw [e, show (1 : Int) = ((1 : Nat) : Int) from rfl, bits_and_u64_nat _ 1 h1 (by omega), Nat.and_one_is_mod, Nat.testBit_eq_decide_div_mod_eq]
  have : x / 2 ^ k % 2 = 0 ∨ x / 2 ^ k % 2 = 1 := by omega
  rcases this with h | h <;> simp [h]

end
end Go.Proofs.YtjhaonfdapldcaaDoor
