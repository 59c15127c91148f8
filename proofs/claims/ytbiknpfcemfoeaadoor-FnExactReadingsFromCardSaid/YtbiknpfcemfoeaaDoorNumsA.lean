/- Reading a narrow number and writing it gives it back, however it is spelt; made wide and narrow again; without its sign; finite, the size. No condition. -/
import Derived.Test.YtbiknpfcemfoeaaDoorBase
import Derived.Test.YtbiknpfcemfoeaaDoorHelp
import Derived.ProofKit
import Derived.Sort.CutIn
namespace Go.Proofs.YtbiknpfcemfoeaaDoor

section
open Ieee

theorem cut_exact (neg : Bool) (m k : Nat) : Toward.even.cut neg (m <<< k) k = m := by
  unfold Toward.cut
  by_cases h0 : m = 0
  · subst h0
    simp
  have hl : (m <<< k).log2 = m.log2 + k := by
    have hne : m <<< k ≠ 0 := by rw [Nat.shiftLeft_eq]; exact Nat.mul_ne_zero h0 (Nat.pos_iff_ne_zero.1 (Nat.two_pow_pos k))
    refine (Nat.log2_eq_iff hne).2 ⟨?_, ?_⟩
    · rw [Nat.shiftLeft_eq, Nat.pow_add]; exact Nat.mul_le_mul_right _ (Nat.log2_self_le h0)
    · rw [Nat.shiftLeft_eq, show m.log2 + k + 1 = (m.log2 + 1) + k by omega, Nat.pow_add]; exact Nat.mul_lt_mul_of_pos_right Nat.lt_log2_self (Nat.two_pow_pos k)
  have hg : min k ((m <<< k).log2 + 2) = k := by rw [hl]; omega
  rw [hg]
  have e1 : (1 <<< k : Nat) = 2 ^ k := by simp [Nat.shiftLeft_eq]
  have hp := Nat.two_pow_pos k
  simp only [e1]
  rw [Nat.shiftLeft_eq, Nat.mul_div_cancel _ hp, Nat.mul_mod_left]
  simp

theorem log2_shift {m : Nat} (h0 : m ≠ 0) (k : Nat) : (m <<< k).log2 = m.log2 + k := by
  have hne : m <<< k ≠ 0 := by rw [Nat.shiftLeft_eq]; exact Nat.mul_ne_zero h0 (Nat.pos_iff_ne_zero.1 (Nat.two_pow_pos k))
  refine (Nat.log2_eq_iff hne).2 ⟨?_, ?_⟩
  · rw [Nat.shiftLeft_eq, Nat.pow_add]; exact Nat.mul_le_mul_right _ (Nat.log2_self_le h0)
  · rw [Nat.shiftLeft_eq, show m.log2 + k + 1 = (m.log2 + 1) + k by omega, Nat.pow_add]; exact Nat.mul_lt_mul_of_pos_right Nat.lt_log2_self (Nat.two_pow_pos k)

theorem s1 : single.signWeight = 2147483648 := by decide +kernel
theorem s2 : single.infRung = 2139095040 := by decide +kernel
theorem s3 : single.binade = 8388608 := by decide +kernel
theorem s4 : single.leastPlace = -149 := by decide +kernel
theorem s5 : single.fractionBits = 23 := rfl
theorem d1 : double.signWeight = 9223372036854775808 := by decide +kernel
theorem d2 : double.infRung = 9218868437227405312 := by decide +kernel
theorem d3 : double.binade = 4503599627370496 := by decide +kernel
theorem d4 : double.leastPlace = -1074 := by decide +kernel
theorem d5 : double.fractionBits = 52 := rfl

/-- A narrow number that is read and written, spelt in any finer way, is itself, with the sign that is written. -/
theorem nearest_read {b : Nat} {s : Bool} {m : Nat} {i : Int} (h : single.read b = .number s m i) (s' : Bool) (k : Nat) :
    single.nearest s' (m <<< k) (i - (k : Int)) = single.word s' (b % 2147483648) := by
  unfold Format.read at h
  simp only [s1, s2, s3, s4] at h
  split at h
  · rename_i hr
    simp only [Datum.number.injEq] at h
    obtain ⟨_, rfl, rfl⟩ := h
    generalize b % 2147483648 = r at hr
    unfold Format.nearest
    by_cases h0 : r = 0
    · subst h0; simp
    have hne : r <<< k ≠ 0 := by rw [Nat.shiftLeft_eq]; exact Nat.mul_ne_zero h0 (Nat.pos_iff_ne_zero.1 (Nat.two_pow_pos k))
    rw [if_neg hne]
    simp only [s2, s3, s4, s5, log2_shift h0]
    have hl : r.log2 < 23 := (Nat.log2_lt h0).2 (by simpa using hr)
    have e : max (-149 - (k : Int) + ((r.log2 + k : Nat) : Int) - ((23 : Nat) : Int)) (-149) = -149 := by omega
    rw [e]
    have e2 : (-149 - (k : Int) - -149).toNat = 0 := by omega
    have e3 : (-149 - (-149 - (k : Int))).toNat = k := by omega
    rw [e2, e3, Nat.shiftLeft_zero, cut_exact]
    congr 1
    have : ((-149 : Int) - -149).toNat = 0 := by omega
    rw [this]
    omega
  · rename_i hr0
    split at h
    · rename_i hr
      simp only [Datum.number.injEq] at h
      obtain ⟨_, rfl, rfl⟩ := h
      generalize b % 2147483648 = r at hr hr0
      unfold Format.nearest
      have h0 : 8388608 + r % 8388608 ≠ 0 := by omega
      have hne : (8388608 + r % 8388608) <<< k ≠ 0 := by rw [Nat.shiftLeft_eq]; exact Nat.mul_ne_zero h0 (Nat.pos_iff_ne_zero.1 (Nat.two_pow_pos k))
      rw [if_neg hne]
      simp only [s2, s3, s4, s5, log2_shift h0]
      have hl : (8388608 + r % 8388608).log2 = 23 := (Nat.log2_eq_iff h0).2 ⟨by omega, by omega⟩
      rw [hl]
      obtain ⟨e, he⟩ : ∃ e : Nat, e = r / 8388608 - 1 := ⟨_, rfl⟩
      rw [← he]
      have e1 : max (-149 + (e : Int) - (k : Int) + ((23 + k : Nat) : Int) - ((23 : Nat) : Int)) (-149) = -149 + (e : Int) := by omega
      rw [e1]
      have e2 : (-149 + (e : Int) - (k : Int) - (-149 + (e : Int))).toNat = 0 := by omega
      have e3 : (-149 + (e : Int) - (-149 + (e : Int) - (k : Int))).toNat = k := by omega
      have e4 : (-149 + (e : Int) - -149).toNat = e := by omega
      rw [e2, e3, e4, Nat.shiftLeft_zero, cut_exact]
      congr 1
      omega
    · split at h <;> cases h

theorem nearest_read0 {b : Nat} {s : Bool} {m : Nat} {i : Int} (h : single.read b = .number s m i) (s' : Bool) : single.nearest s' m i = single.word s' (b % 2147483648) := by
  have := nearest_read h s' 0
  simpa using this

theorem read_inf {b : Nat} {s : Bool} (h : single.read b = .infinity s) : b % 2147483648 = 2139095040 := by
  unfold Format.read at h
  simp only [s1, s2, s3, s4] at h
  split at h
  · cases h
  · split at h
    · cases h
    · split at h
      · assumption
      · cases h

/-- The wide number's word. -/
theorem double_word (s : Bool) (m : Nat) (i : Int) (hm : m < 16777216) (h1 : -149 ≤ i) (h2 : i ≤ 104) (h0 : m ≠ 0) :
    ∃ rung, rung < double.infRung ∧ double.nearest s m i = double.word s rung ∧ ∀ t, double.read (double.word t rung) = .number t (m <<< (52 - m.log2)) (i - ((52 - m.log2 : Nat) : Int)) := by
  have hl : m.log2 < 24 := (Nat.log2_lt h0).2 (by simpa using hm)
  have hlt : m < 2 ^ (m.log2 + 1) := Nat.lt_log2_self
  have hge : 2 ^ m.log2 ≤ m := Nat.log2_self_le h0
  have hk : m <<< (52 - m.log2) < 2 ^ 53 := by
    rw [Nat.shiftLeft_eq]
    calc m * 2 ^ (52 - m.log2) < 2 ^ (m.log2 + 1) * 2 ^ (52 - m.log2) := Nat.mul_lt_mul_of_pos_right hlt (Nat.two_pow_pos _)
      _ = 2 ^ 53 := by rw [← Nat.pow_add]; congr 1; omega
  have hk2 : 2 ^ 52 ≤ m <<< (52 - m.log2) := by
    rw [Nat.shiftLeft_eq]
    calc 2 ^ 52 = 2 ^ m.log2 * 2 ^ (52 - m.log2) := by rw [← Nat.pow_add]; congr 1; omega
      _ ≤ m * 2 ^ (52 - m.log2) := Nat.mul_le_mul_right _ hge
  generalize hK : m <<< (52 - m.log2) = K at hk hk2
  obtain ⟨X, hX⟩ : ∃ X : Nat, (X : Int) = i + (m.log2 : Int) - 52 - -1074 := ⟨(i + (m.log2 : Int) - 52 - -1074).toNat, by omega⟩
  have hX1 : X ≤ 1149 := by omega
  refine ⟨X * 4503599627370496 + K, by rw [d2]; omega, ?_, fun t => ?_⟩
  · unfold Format.nearest
    rw [if_neg h0]
    simp only [d2, d3, d4, d5]
    have hmax : max (i + (m.log2 : Int) - ((52 : Nat) : Int)) (-1074) = i + (m.log2 : Int) - 52 := by omega
    have hd : (i + (m.log2 : Int) - 52 - i).toNat = 0 := by omega
    have hu : (i - (i + (m.log2 : Int) - 52)).toNat = 52 - m.log2 := by omega
    have hx : (i + (m.log2 : Int) - 52 - -1074).toNat = X := by omega
    rw [hmax, hd, hu, cut_none, hK, hx, Nat.min_eq_left (by omega)]
  · have hw : double.word t (X * 4503599627370496 + K) / 9223372036854775808 % 2 = t.toNat ∧ double.word t (X * 4503599627370496 + K) % 9223372036854775808 = X * 4503599627370496 + K := by
      unfold Format.word
      rw [d1]
      cases t <;> simp <;> omega
    unfold Format.read
    simp only [d1, d2, d3, d4, hw]
    rw [if_neg (by omega), if_pos (by omega)]
    have ht : (t.toNat == 1) = t := by cases t <;> rfl
    rw [ht]
    congr 1
    · omega
    · omega

/-- A number without its sign. -/
def absN (b : Nat) : Nat := b % 2147483648
theorem absN_word (b : Nat) : single.word false (b % 2147483648) = absN b := rfl

theorem double_word0 (s : Bool) (i : Int) : double.nearest s 0 i = double.word s 0 := by
  unfold Format.nearest
  simp
theorem double_read0 (t : Bool) : double.read (double.word t 0) = .number t 0 (-1074) := by cases t <;> decide +kernel
theorem double_readInf (t : Bool) : double.read (double.word t double.infRung) = .infinity t := by cases t <;> decide +kernel

/-- Made wide, without its sign, and narrow again. -/
theorem cv_abs (b : Nat) (h : nanK .f32 b = false) : (FloatKind.f64.format.read (cv b % 9223372036854775808)).isNaN = false ∧ FloatKind.f32.format.write (FloatKind.f64.format.read (cv b % 9223372036854775808)) = absN b ∧ ((FloatKind.f64.format.read (cv b % 9223372036854775808)).isInfinity = false → (FloatKind.f32.format.read (absN b)).isInfinity = false) := by
  rw [nanK_read] at h
  have hf : FloatKind.f32.format = single := rfl
  have hd : FloatKind.f64.format = double := rfl
  rw [hf] at h
  unfold cv
  rw [hf, hd]
  have word_mod : ∀ s rung, rung < 9223372036854775808 → double.word s rung % 9223372036854775808 = double.word false rung := fun s rung hr => by
    unfold Format.word
    rw [d1]
    cases s <;> simp <;> omega
  cases hr : single.read b with
  | nan s f => rw [hr] at h; simp [Datum.isNaN] at h
  | infinity s =>
    show (double.read (double.word s double.infRung % 9223372036854775808)).isNaN = false ∧ _
    rw [show double.write (.infinity s) = double.word s double.infRung from rfl, word_mod s _ (by rw [d2]; omega), double_readInf]
    refine ⟨rfl, ?_, by simp [Datum.isInfinity]⟩
    show single.word false single.infRung = absN b
    unfold absN
    rw [read_inf hr, s2]
    rfl
  | number s m i =>
    obtain ⟨h1, h2, h3⟩ := single_number hr
    rw [show double.write (.number s m i) = double.nearest s m i from rfl]
    have hinf : (single.read (absN b)).isInfinity = false := by
      have : absN b % 2147483648 = b % 2147483648 := by unfold absN; omega
      cases hi : single.read (absN b) with
      | infinity t =>
        have e1 := read_inf hi
        rw [this] at e1
        unfold Format.read at hr
        simp only [s1, s2, s3, s4, e1] at hr
        cases hr
      | number => rfl
      | nan => rfl
    by_cases h0 : m = 0
    · subst h0
      rw [double_word0, word_mod s 0 (by omega), double_read0]
      refine ⟨rfl, ?_, fun _ => hinf⟩
      have := nearest_read0 hr false
      rw [absN_word] at this
      rw [← this]
      show single.nearest false 0 (-1074) = single.nearest false 0 i
      simp [Format.nearest]
    · obtain ⟨rung, q1, q2, q3⟩ := double_word s m i h1 h2 h3 h0
      rw [q2, word_mod s rung (by rw [d2] at q1; omega), q3]
      exact ⟨rfl, nearest_read hr false _, fun _ => hinf⟩

/-- The size, as the model finds it. -/
theorem zero_less (b : Nat) (h : nanK .f32 b = false) (hs : (FloatKind.f32.format.order b 0 == some Ordering.lt || FloatKind.f32.format.order b 0 == some Ordering.eq) = true) : fop .f32 .sub (num .f32 0) (num .f32 b) = some (absN b) := by
  rw [fop_num]
  have hn := h
  rw [nanK_read] at hn
  have hf : FloatKind.f32.format = single := rfl
  rw [hf] at hn
  show Format.sub single 0 b = _
  have hs' : ((single.read b).order (single.read 0) == some Ordering.lt || (single.read b).order (single.read 0) == some Ordering.eq) = true := hs
  have z : single.read 0 = .number false 0 (-149) := by decide +kernel
  rw [z] at hs'
  unfold Format.sub
  rw [z]
  cases hr : single.read b with
  | nan s f => rw [hr] at hn; simp [Datum.isNaN] at hn
  | infinity s =>
    rw [hr] at hs'
    cases s
    · simp [Datum.order] at hs'
    · simp only [Datum.opposite, Datum.sum, Option.map_some, Format.write, Bool.not_true]
      show some (single.word false single.infRung) = some (absN b)
      unfold absN
      rw [read_inf hr, s2]
      rfl
  | number s m i =>
    rw [hr] at hs'
    obtain ⟨h1, h2, h3⟩ := single_number hr
    have hb : min (-149) i = -149 := by omega
    simp only [Datum.opposite, Datum.sum, hb, Option.map_some, Option.some.injEq]
    obtain ⟨k, hk⟩ : ∃ k : Nat, i = -149 + k := ⟨(i + 149).toNat, by omega⟩
    subst hk
    have ek : (-149 + (k : Int) - -149).toNat = k := by omega
    have e0 : ((-149 : Int) - -149).toNat = 0 := by omega
    rw [ek, e0]
    have hz : signed false 0 0 = 0 := rfl
    rw [hz, Int.zero_add]
    have hfin := nearest_read hr false k
    rw [show -149 + (k : Int) - (k : Int) = -149 by omega, absN_word] at hfin
    by_cases h0 : m = 0
    · subst h0
      have : signed (!s) 0 k = 0 := by cases s <;> simp [signed]
      rw [this]
      simp only [if_true, Bool.false_and, Int.natAbs_zero, Format.write]
      rw [← hfin]
      simp
    · have hs1 : s = true := by
        cases s
        · exfalso
          have e2 : min (-149 + (k : Int)) (-149) = -149 := by omega
          simp only [Datum.order, e2, ek, e0, hz] at hs'
          have hp : 0 < signed false m k := by
            unfold signed
            simp only [Bool.false_eq_true, if_false]
            have : m <<< k ≠ 0 := by rw [Nat.shiftLeft_eq]; exact Nat.mul_ne_zero h0 (Nat.pos_iff_ne_zero.1 (Nat.two_pow_pos k))
            generalize m <<< k = q at this
            omega
          generalize signed false m k = q at hp hs'
          have c : compare q 0 = Ordering.gt := by
            have q1 : ¬ q < 0 := by omega
            have q2 : ¬ q = 0 := by omega
            simp [compare, compareOfLessAndEq, q1, q2]
          rw [c] at hs'
          simp at hs'
        · rfl
      subst hs1
      have hp : signed (!true) m k = ((m <<< k : Nat) : Int) := rfl
      have hne : ((m <<< k : Nat) : Int) ≠ 0 := by
        have : m <<< k ≠ 0 := by rw [Nat.shiftLeft_eq]; exact Nat.mul_ne_zero h0 (Nat.pos_iff_ne_zero.1 (Nat.two_pow_pos k))
        omega
      rw [hp, if_neg hne, Int.natAbs_natCast]
      have hd : decide (((m <<< k : Nat) : Int) < 0) = false := by
        generalize m <<< k = q
        simp
      rw [hd]
      exact hfin

/-- A number that is greater than 0 is its own size. -/
theorem absN_pos (b : Nat) (hb : b < 4294967296) (h : nanK .f32 b = false) (hs : (FloatKind.f32.format.order b 0 == some Ordering.lt || FloatKind.f32.format.order b 0 == some Ordering.eq) = false) : absN b = b := by
  have hn := h
  rw [nanK_read] at hn
  have hf : FloatKind.f32.format = single := rfl
  rw [hf] at hn
  have hs' : ((single.read b).order (single.read 0) == some Ordering.lt || (single.read b).order (single.read 0) == some Ordering.eq) = false := hs
  have z : single.read 0 = .number false 0 (-149) := by decide +kernel
  rw [z] at hs'
  have key : ((single.read b).neg = false) := by
    cases hr : single.read b with
    | nan s f => rw [hr] at hn; simp [Datum.isNaN] at hn
    | infinity s =>
      rw [hr] at hs'
      cases s
      · rfl
      · simp [Datum.order] at hs'
    | number s m i =>
      cases s
      · rfl
      · exfalso
        rw [hr] at hs'
        have hle : signed true m (i - min i (-149)).toNat ≤ signed false 0 (-149 - min i (-149)).toNat := by
          unfold signed
          simp only [if_true, Nat.zero_shiftLeft, Bool.false_eq_true, if_false]
          generalize m <<< (i - min i (-149)).toNat = q
          omega
        simp only [Datum.order] at hs'
        rcases Int.lt_or_eq_of_le hle with q | q
        · simp [compare, compareOfLessAndEq, q] at hs'
        · simp [compare, compareOfLessAndEq, q] at hs'
  have : (single.read b).neg = (b / 2147483648 % 2 == 1) := by
    unfold Format.read
    simp only [s1, s2, s3, s4]
    split
    · rfl
    · split
      · rfl
      · split <;> rfl
  rw [this] at key
  unfold absN
  simp at key
  omega
end

section
open Go.RowKit Ieee
set_option linter.unusedSimpArgs false

/-- A number is finite. -/
def finB (b : Nat) : Bool := match single.read b with
  | .number .. => true
  | _ => false
/-- The same of a number up to which NaN it is. -/
def finO : Option Nat → Bool
  | some b => finB b
  | none => false

theorem fop_sub_self (b : Nat) : fop .f32 .sub (num .f32 b) (num .f32 b) = if finB b = true then some 0 else none := by
  rw [fop_num]
  show Format.sub single b b = _
  unfold Format.sub finB
  cases h : single.read b with
  | number s m i =>
    simp only [Datum.opposite, Datum.sum, if_true, Int.min_self, Int.sub_self]
    have e : signed s m (Int.toNat 0) + signed (!s) m (Int.toNat 0) = 0 := by
      cases s <;> simp [signed] <;> omega
    rw [e]
    simp [Format.write, Format.nearest]
    cases s <;> decide +kernel
  | infinity s => cases s <;> simp [Datum.opposite, Datum.sum]
  | nan s f => simp [Datum.opposite, Datum.sum]

theorem finB_num {a b : Nat} (h : num .f32 a = num .f32 b) : finB a = finB b := by
  cases ha : nanK .f32 a
  · rw [num_some ha] at h
    cases hb : nanK .f32 b
    · rw [num_some hb] at h
      rw [Option.some.inj h]
    · rw [num_none hb] at h; cases h
  · rw [num_none ha] at h
    have hb := num_eq_none h.symm
    rw [nanK_read] at ha hb
    unfold finB
    have f : FloatKind.f32.format = single := rfl
    rw [f] at ha hb
    cases h1 : single.read a <;> cases h2 : single.read b <;> simp [h1, h2, Datum.isNaN] at ha hb ⊢

theorem finO_num (b : Nat) : finO (num .f32 b) = finB b := by
  cases hb : nanK .f32 b
  · rw [num_some hb]; rfl
  · rw [num_none hb]
    rw [nanK_read] at hb
    have f : FloatKind.f32.format = single := rfl
    rw [f] at hb
    unfold finO finB
    cases h1 : single.read b <;> simp [h1, Datum.isNaN] at hb ⊢

set_option maxRecDepth 100000 in
theorem l01Finite_any (b : Nat) (w : World) : Calls Tryd.prog 30 #[.float .f32 b] w fun e w' => e = .returned (.bool (finB b)) ∧ Quiet w w' := by
  have hs := fop_sub_self b
  have HS := Lib.hid hs
  clear hs
  go_enter Tryd.func30, Tryd.ntmps30
  go_wp2_with (refine wpList_float rfl _ _ _ _ _ rfl rfl .f32 _ _ rfl rfl ?_; intro r n hr; have HR := Lib.hid (hr.trans HS.out); clear hr)
  cases hf : finB b
  · have h := HR.out
    rw [hf] at h
    have e : (FloatKind.f32.format.order r 0 == some Ordering.eq) = false := by
      have h1 := num_eq_none h
      rw [nanK_read] at h1
      unfold Format.order
      cases h2 : FloatKind.f32.format.read r <;> simp [h2, Datum.isNaN] at h1
      cases h3 : FloatKind.f32.format.read 0 <;> rfl
    go_ret
    exact ⟨ret_bool e, n, rfl⟩
  · have h := HR.out
    rw [hf] at h
    obtain ⟨rfl, _⟩ := num_eq_some h
    go_ret
    exact ⟨ret_bool (by decide +kernel), n, rfl⟩

/-- The size of a number, up to which NaN it is. -/
def sizeO (o : Option Nat) : Option Nat := o.map absN

theorem f64bits (b : Nat) (w : World) : (callFunc 108 #[.float .f64 b]).run Tryd.prog w = .ok (.value (.int .u64 b)) w := by kernel_rfl
theorem f64from (n : Nat) (w : World) : (callFunc 107 #[.int .u64 n]).run Tryd.prog w = .ok (.value (.float .f64 n)) w := by kernel_rfl

theorem andNot63 (x : Nat) : bits .andNot .u64 (x : Int) 9223372036854775808 = ((x % 9223372036854775808 : Nat) : Int) := by
  have h1 : (BitVec.ofInt 64 (x : Int)) = BitVec.ofNat 64 x := by rw [BitVec.ofInt_natCast]
  show IntKind.u64.wrap ((BitVec.ofInt 64 (x : Int) &&& ~~~ BitVec.ofInt 64 (9223372036854775808 : Int)).toNat : Int) = _
  have hn : (BitVec.ofInt 64 (x : Int) &&& ~~~ BitVec.ofInt 64 (9223372036854775808 : Int)).toNat = x % 9223372036854775808 := by
    rw [h1, show BitVec.ofInt 64 (9223372036854775808 : Int) = BitVec.ofNat 64 9223372036854775808 from rfl]
    apply Nat.eq_of_testBit_eq
    intro i
    rw [BitVec.testBit_toNat, BitVec.getLsbD_and, BitVec.getLsbD_not, BitVec.getLsbD_ofNat, BitVec.getLsbD_ofNat, show (9223372036854775808 : Nat) = 2 ^ 63 from rfl, Nat.testBit_mod_two_pow, Nat.testBit_two_pow]
    by_cases h : i < 63
    · have e : ¬ 63 = i := by omega
      have e2 : i < 64 := by omega
      simp [h, e, e2]
    · by_cases e : i = 63
      · subst e; simp
      · have e2 : ¬ i < 64 := by omega
        simp [h, e2]
  rw [hn, IntKind.wrap_u64]
  omega

set_option maxRecDepth 100000 in
theorem abs_any (x : Nat) (w : World) : Calls Tryd.prog 99 #[.float .f64 x] w fun e w' => e = .returned (.float .f64 (x % 9223372036854775808)) ∧ w = w' := by
  have h1 := f64bits
  have h2 : ∀ w, (callFunc 107 #[.int .u64 ((x : Int) % 9223372036854775808)]).run Tryd.prog w = .ok (.value (.float .f64 (x % 9223372036854775808))) w := fun w => f64from (x % 9223372036854775808) w
  have h3 := andNot63 x
  go_enter Tryd.func99, Tryd.ntmps99
  go_wp2_with (simp only [h3])
  go_ret
  exact ⟨rfl, rfl⟩

/-- A wide number that fits made narrow. -/
theorem run_narrow (P : Program) (w : World) (src dst : TypeId) (hs : P.underlying src = some (.float .f64)) (hd : P.underlying dst = some (.float .f32)) (x : Nat)
    (hf : nanK .f64 x = false → (FloatKind.f64.format.read x).isInfinity = false → (FloatKind.f32.format.read (FloatKind.f32.format.write (FloatKind.f64.format.read x))).isInfinity = false) :
    ∃ r n, num .f32 r = (if nanK .f64 x = true then none else some (FloatKind.f32.format.write (FloatKind.f64.format.read x))) ∧ (convert src dst (.float .f64 x)).run P w = .ok (.float .f32 r) (w.drewN n) := by
  cases hn : nanK .f64 x
  · have hn' : (FloatKind.f64.format.read x).isNaN = false := by rw [← hn, nanK_read]
    refine ⟨FloatKind.f32.format.write (FloatKind.f64.format.read x), 0, ?_, ?_⟩
    · rw [if_neg (by simp)]
      exact num_some (write_notnan .f32 _ hn')
    · refine run_convert_float_float w src dst .f64 .f32 x _ (by simp [hs]) hd ?_
      unfold floatToFloatBits
      show (if FloatKind.f64 = FloatKind.f32 then _ else _) = _
      rw [if_neg (by decide)]
      have hf' := hf hn
      show (match FloatKind.f64.format.read x with | .nan _ _ => _ | .infinity s => _ | .number s m e => _) = _
      cases hr : FloatKind.f64.format.read x with
      | number s m i =>
        rw [hr] at hf'
        have := hf' rfl
        simp [FloatKind.encode, FloatKind.decode, this]
      | infinity s => rfl
      | nan s f => rw [hr] at hn'; simp [Datum.isNaN] at hn'
  · have hn' : (FloatKind.f64.format.read x).isNaN = true := by rw [← hn, nanK_read]
    refine ⟨(Question.nanConv .f32 x).cut (w.tape w.drawn (.nanConv .f32 x)), 1, ?_, ?_⟩
    · rw [if_pos rfl]
      exact num_none (cut_nan .f32 0 0 (w.tape w.drawn (.nanConv .f32 x)))
    · cases hr : FloatKind.f64.format.read x with
      | number s m i => rw [hr] at hn'; simp [Datum.isNaN] at hn'
      | infinity s => rw [hr] at hn'; simp [Datum.isNaN] at hn'
      | nan s f =>
        have hd' : FloatKind.f64.decode x = .nan s f := hr
        simp [convert, run_underlying hs, run_underlying hd, Conv.floatToFloat, hd', Question.forced, World.drew_is_drewN]

/-- A CONVERSION TO A NARROW NUMBER, IN A WALK. -/
theorem wpList_narrow {P : Program} {ops : Array Oper} {rest : List Oper} {o : Oper} {a : Act} {w : World} {Q : Exit → Act → World → Prop} (hg : o.guard = none) (src dst : TypeId) (x : Operand)
    (ho : o.op = .convert src dst x) (hs : P.underlying src = some (.float .f64)) (hd : P.underlying dst = some (.float .f32)) (b : Nat) (hx : a.eval x = .float .f64 b)
    (hf : nanK .f64 b = false → (FloatKind.f64.format.read b).isInfinity = false → (FloatKind.f32.format.read (FloatKind.f32.format.write (FloatKind.f64.format.read b))).isInfinity = false)
    (h : ∀ r n, num .f32 r = (if nanK .f64 b = true then none else some (FloatKind.f32.format.write (FloatKind.f64.format.read b))) → wpList P ops Q rest (a.put o.dst (.float .f32 r)) (w.drewN n)) : wpList P ops Q (o :: rest) a w :=
  wpList_plain hg fun K hK => by
    obtain ⟨r, n, hr, hrun⟩ := run_narrow P w src dst hs hd b hf
    unfold Oper.wp execOp
    simp only [ho, hx]
    simp only [Sem.run_bind, hrun, Result.andThen]
    exact hK _ _ (h r n hr)

theorem nan_mod (x : Nat) : nanK .f64 (x % 9223372036854775808) = nanK .f64 x := by
  rw [nanK_read, nanK_read]
  show (double.read (x % 9223372036854775808)).isNaN = (double.read x).isNaN
  unfold Format.read
  simp only [d1, Nat.mod_mod]
  split
  · rfl
  · split
    · rfl
    · split <;> rfl

theorem size_wide {b r : Nat} (h : num .f64 r = (num .f32 b).map cv) :
    (nanK .f64 (r % 9223372036854775808) = false → (FloatKind.f64.format.read (r % 9223372036854775808)).isInfinity = false → (FloatKind.f32.format.read (FloatKind.f32.format.write (FloatKind.f64.format.read (r % 9223372036854775808)))).isInfinity = false) ∧
    (if nanK .f64 (r % 9223372036854775808) = true then none else some (FloatKind.f32.format.write (FloatKind.f64.format.read (r % 9223372036854775808)))) = sizeO (num .f32 b) := by
  cases hb : nanK .f32 b
  · rw [num_some hb] at h ⊢
    obtain ⟨rfl, hn⟩ := num_eq_some (b := cv b) h
    obtain ⟨h1, h2, h3⟩ := cv_abs b hb
    rw [nanK_read, h1, h2]
    exact ⟨fun _ => h3, rfl⟩
  · rw [num_none hb] at h ⊢
    have hn := num_eq_none (k := .f64) (a := r) h
    rw [nan_mod, hn]
    exact ⟨fun h => (by cases h), rfl⟩

set_option maxRecDepth 100000 in
theorem sizeOf_any (b : Nat) (w : World) : Calls Tryd.prog 76 #[.float .f32 b] w fun e w' => ∃ r, e = .returned (.float .f32 r) ∧ num .f32 r = sizeO (num .f32 b) ∧ Quiet w w' := by
  go_enter Tryd.func76, Tryd.ntmps76
  go_wp2_with (first | (refine wpList_conv rfl _ _ _ rfl Tryd.underlying24 Tryd.underlying30 _ rfl ?_; intro x n hx; have X := Lib.hid (size_wide hx); clear hx) | (go_at_call 99; refine (abs_any x _).mono ?_; rintro e w' ⟨rfl, rfl⟩) | (refine wpList_narrow rfl _ _ _ rfl Tryd.underlying30 Tryd.underlying24 _ rfl X.out.1 ?_; intro r m hr; have HR := Lib.hid hr; clear hr))
  go_ret
  exact ⟨r, rfl, HR.out.trans X.out.2, _, rfl⟩

end
end Go.Proofs.YtbiknpfcemfoeaaDoor
