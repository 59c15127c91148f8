/- Reading a narrow number and writing it gives it back, however it is spelt; made wide and narrow again; without its sign. No condition. · Facts on numbers: finite, the size. No condition. · The sum of a field over all cells: the model's. No condition. · SumOver: the model's and the program's. Condition (the program's): the table of math/bits is laid. · The law FnExactJointOf: for every two numbers the call returns true. Condition: none. · Drawn regions with numbers up to which NaN they are: what they need. No condition. · A walk's step that looks at the operation first. No condition. · Sizes: the model's. No condition. · WithFixed: the model's and the program's. Condition (the program's): the table of math/bits is laid. · MirrorGround: the model's. No condition. · MirrorGround: the program's. Condition: the table of math/bits is laid. -/
import Derived.Test.YtjbldgefabbgpaaDoorBase
import Derived.Test.YtjbldgefabbgpaaDoorChk
import Derived.Test.YtjbldgefabbgpaaDoorHelp
import Derived.Test.YtjbldgefabbgpaaDoorCell
import Derived.ProofKit
import Derived.Sort.CutIn
namespace Go.Proofs.YtjbldgefabbgpaaDoor

section
open Ieee

theorem cut_exact (neg : Bool) (m k : Nat) : Toward.even.cut neg (m <<< k) k = m := by
  unfold Toward.cut
  by_cases h0 : m = 0
  · subst h0
    simp
  have hl : (m <<< k).log2 = m.log2 + k := by
    have hne : m <<< k ≠ 0 := by rw [Nat.shiftLeft_eq]; exact Nat.mul_ne_zero h0 (Nat.pos_iff_ne_zero.1 (Nat.two_pow_pos k))
    refine (Nat.log2_eq_iff hne).2 ⟨?_, ?_⟩
    · rw [Nat.shiftLeft_eq, Nat.pow_add]; exact Nat.mul_le_mul_right _ (Nat.log2_self_le h0)
    · rw [Nat.shiftLeft_eq, show m.log2 + k + 1 = (m.log2 + 1) + k by omega, Nat.pow_add]; exact Nat.mul_lt_mul_of_pos_right Nat.lt_log2_self (Nat.two_pow_pos k)
  have hg : min k ((m <<< k).log2 + 2) = k := by rw [hl]; omega
  rw [hg]
  have e1 : (1 <<< k : Nat) = 2 ^ k := by simp [Nat.shiftLeft_eq]
  have hp := Nat.two_pow_pos k
  simp only [e1]
  rw [Nat.shiftLeft_eq, Nat.mul_div_cancel _ hp, Nat.mul_mod_left]
  simp

theorem log2_shift {m : Nat} (h0 : m ≠ 0) (k : Nat) : (m <<< k).log2 = m.log2 + k := by
  have hne : m <<< k ≠ 0 := by rw [Nat.shiftLeft_eq]; exact Nat.mul_ne_zero h0 (Nat.pos_iff_ne_zero.1 (Nat.two_pow_pos k))
  refine (Nat.log2_eq_iff hne).2 ⟨?_, ?_⟩
  · rw [Nat.shiftLeft_eq, Nat.pow_add]; exact Nat.mul_le_mul_right _ (Nat.log2_self_le h0)
  · rw [Nat.shiftLeft_eq, show m.log2 + k + 1 = (m.log2 + 1) + k by omega, Nat.pow_add]; exact Nat.mul_lt_mul_of_pos_right Nat.lt_log2_self (Nat.two_pow_pos k)

theorem s1 : single.signWeight = 2147483648 := by decide +kernel
theorem s2 : single.infRung = 2139095040 := by decide +kernel
theorem s3 : single.binade = 8388608 := by decide +kernel
theorem s4 : single.leastPlace = -149 := by decide +kernel
theorem s5 : single.fractionBits = 23 := rfl
theorem d1 : double.signWeight = 9223372036854775808 := by decide +kernel
theorem d2 : double.infRung = 9218868437227405312 := by decide +kernel
theorem d3 : double.binade = 4503599627370496 := by decide +kernel
theorem d4 : double.leastPlace = -1074 := by decide +kernel
theorem d5 : double.fractionBits = 52 := rfl

/-- A narrow number that is read and written, spelt in any finer way, is itself, with the sign that is written. -/
theorem nearest_read {b : Nat} {s : Bool} {m : Nat} {i : Int} (h : single.read b = .number s m i) (s' : Bool) (k : Nat) :
    single.nearest s' (m <<< k) (i - (k : Int)) = single.word s' (b % 2147483648) := by
  unfold Format.read at h
  simp only [s1, s2, s3, s4] at h
  split at h
  · rename_i hr
    simp only [Datum.number.injEq] at h
    obtain ⟨_, rfl, rfl⟩ := h
    generalize b % 2147483648 = r at hr
    unfold Format.nearest
    by_cases h0 : r = 0
    · subst h0; simp
    have hne : r <<< k ≠ 0 := by rw [Nat.shiftLeft_eq]; exact Nat.mul_ne_zero h0 (Nat.pos_iff_ne_zero.1 (Nat.two_pow_pos k))
    rw [if_neg hne]
    simp only [s2, s3, s4, s5, log2_shift h0]
    have hl : r.log2 < 23 := (Nat.log2_lt h0).2 (by simpa using hr)
    have e : max (-149 - (k : Int) + ((r.log2 + k : Nat) : Int) - ((23 : Nat) : Int)) (-149) = -149 := by omega
    rw [e]
    have e2 : (-149 - (k : Int) - -149).toNat = 0 := by omega
    have e3 : (-149 - (-149 - (k : Int))).toNat = k := by omega
    rw [e2, e3, Nat.shiftLeft_zero, cut_exact]
    congr 1
    have : ((-149 : Int) - -149).toNat = 0 := by omega
    rw [this]
    omega
  · rename_i hr0
    split at h
    · rename_i hr
      simp only [Datum.number.injEq] at h
      obtain ⟨_, rfl, rfl⟩ := h
      generalize b % 2147483648 = r at hr hr0
      unfold Format.nearest
      have h0 : 8388608 + r % 8388608 ≠ 0 := by omega
      have hne : (8388608 + r % 8388608) <<< k ≠ 0 := by rw [Nat.shiftLeft_eq]; exact Nat.mul_ne_zero h0 (Nat.pos_iff_ne_zero.1 (Nat.two_pow_pos k))
      rw [if_neg hne]
      simp only [s2, s3, s4, s5, log2_shift h0]
      have hl : (8388608 + r % 8388608).log2 = 23 := (Nat.log2_eq_iff h0).2 ⟨by omega, by omega⟩
      rw [hl]
      obtain ⟨e, he⟩ : ∃ e : Nat, e = r / 8388608 - 1 := ⟨_, rfl⟩
      rw [← he]
      have e1 : max (-149 + (e : Int) - (k : Int) + ((23 + k : Nat) : Int) - ((23 : Nat) : Int)) (-149) = -149 + (e : Int) := by omega
      rw [e1]
      have e2 : (-149 + (e : Int) - (k : Int) - (-149 + (e : Int))).toNat = 0 := by omega
      have e3 : (-149 + (e : Int) - (-149 + (e : Int) - (k : Int))).toNat = k := by omega
      have e4 : (-149 + (e : Int) - -149).toNat = e := by omega
      rw [e2, e3, e4, Nat.shiftLeft_zero, cut_exact]
      congr 1
      omega
    · split at h <;> cases h

theorem nearest_read0 {b : Nat} {s : Bool} {m : Nat} {i : Int} (h : single.read b = .number s m i) (s' : Bool) : single.nearest s' m i = single.word s' (b % 2147483648) := by
  have := nearest_read h s' 0
  simpa using this

theorem read_inf {b : Nat} {s : Bool} (h : single.read b = .infinity s) : b % 2147483648 = 2139095040 := by
  unfold Format.read at h
  simp only [s1, s2, s3, s4] at h
  split at h
  · cases h
  · split at h
    · cases h
    · split at h
      · assumption
      · cases h

/-- The wide number's word. -/
theorem double_word (s : Bool) (m : Nat) (i : Int) (hm : m < 16777216) (h1 : -149 ≤ i) (h2 : i ≤ 104) (h0 : m ≠ 0) :
    ∃ rung, rung < double.infRung ∧ double.nearest s m i = double.word s rung ∧ ∀ t, double.read (double.word t rung) = .number t (m <<< (52 - m.log2)) (i - ((52 - m.log2 : Nat) : Int)) := by
  have hl : m.log2 < 24 := (Nat.log2_lt h0).2 (by simpa using hm)
  have hlt : m < 2 ^ (m.log2 + 1) := Nat.lt_log2_self
  have hge : 2 ^ m.log2 ≤ m := Nat.log2_self_le h0
  have hk : m <<< (52 - m.log2) < 2 ^ 53 := by
    rw [Nat.shiftLeft_eq]
    calc m * 2 ^ (52 - m.log2) < 2 ^ (m.log2 + 1) * 2 ^ (52 - m.log2) := Nat.mul_lt_mul_of_pos_right hlt (Nat.two_pow_pos _)
      _ = 2 ^ 53 := by rw [← Nat.pow_add]; congr 1; omega
  have hk2 : 2 ^ 52 ≤ m <<< (52 - m.log2) := by
    rw [Nat.shiftLeft_eq]
    calc 2 ^ 52 = 2 ^ m.log2 * 2 ^ (52 - m.log2) := by rw [← Nat.pow_add]; congr 1; omega
      _ ≤ m * 2 ^ (52 - m.log2) := Nat.mul_le_mul_right _ hge
  generalize hK : m <<< (52 - m.log2) = K at hk hk2
  obtain ⟨X, hX⟩ : ∃ X : Nat, (X : Int) = i + (m.log2 : Int) - 52 - -1074 := ⟨(i + (m.log2 : Int) - 52 - -1074).toNat, by omega⟩
  have hX1 : X ≤ 1149 := by omega
  refine ⟨X * 4503599627370496 + K, by rw [d2]; omega, ?_, fun t => ?_⟩
  · unfold Format.nearest
    rw [if_neg h0]
    simp only [d2, d3, d4, d5]
    have hmax : max (i + (m.log2 : Int) - ((52 : Nat) : Int)) (-1074) = i + (m.log2 : Int) - 52 := by omega
    have hd : (i + (m.log2 : Int) - 52 - i).toNat = 0 := by omega
    have hu : (i - (i + (m.log2 : Int) - 52)).toNat = 52 - m.log2 := by omega
    have hx : (i + (m.log2 : Int) - 52 - -1074).toNat = X := by omega
    rw [hmax, hd, hu, cut_none, hK, hx, Nat.min_eq_left (by omega)]
  · have hw : double.word t (X * 4503599627370496 + K) / 9223372036854775808 % 2 = t.toNat ∧ double.word t (X * 4503599627370496 + K) % 9223372036854775808 = X * 4503599627370496 + K := by
      unfold Format.word
      rw [d1]
      cases t <;> simp <;> omega
    unfold Format.read
    simp only [d1, d2, d3, d4, hw]
    rw [if_neg (by omega), if_pos (by omega)]
    have ht : (t.toNat == 1) = t := by cases t <;> rfl
    rw [ht]
    congr 1
    · omega
    · omega

/-- A number without its sign. -/
def absN (b : Nat) : Nat := b % 2147483648
theorem absN_word (b : Nat) : single.word false (b % 2147483648) = absN b := rfl

theorem double_word0 (s : Bool) (i : Int) : double.nearest s 0 i = double.word s 0 := by
  unfold Format.nearest
  simp
theorem double_read0 (t : Bool) : double.read (double.word t 0) = .number t 0 (-1074) := by cases t <;> decide +kernel
theorem double_readInf (t : Bool) : double.read (double.word t double.infRung) = .infinity t := by cases t <;> decide +kernel

/-- Made wide, without its sign, and narrow again. -/
theorem cv_abs (b : Nat) (h : nanK .f32 b = false) : (FloatKind.f64.format.read (cv b % 9223372036854775808)).isNaN = false ∧ FloatKind.f32.format.write (FloatKind.f64.format.read (cv b % 9223372036854775808)) = absN b ∧ ((FloatKind.f64.format.read (cv b % 9223372036854775808)).isInfinity = false → (FloatKind.f32.format.read (absN b)).isInfinity = false) := by
  rw [nanK_read] at h
  have hf : FloatKind.f32.format = single := rfl
  have hd : FloatKind.f64.format = double := rfl
  rw [hf] at h
  unfold cv
  rw [hf, hd]
  have word_mod : ∀ s rung, rung < 9223372036854775808 → double.word s rung % 9223372036854775808 = double.word false rung := fun s rung hr => by
    unfold Format.word
    rw [d1]
    cases s <;> simp <;> omega
  cases hr : single.read b with
  | nan s f => rw [hr] at h; simp [Datum.isNaN] at h
  | infinity s =>
    show (double.read (double.word s double.infRung % 9223372036854775808)).isNaN = false ∧ _
    rw [show double.write (.infinity s) = double.word s double.infRung from rfl, word_mod s _ (by rw [d2]; omega), double_readInf]
    refine ⟨rfl, ?_, by simp [Datum.isInfinity]⟩
    show single.word false single.infRung = absN b
    unfold absN
    rw [read_inf hr, s2]
    rfl
  | number s m i =>
    obtain ⟨h1, h2, h3⟩ := single_number hr
    rw [show double.write (.number s m i) = double.nearest s m i from rfl]
    have hinf : (single.read (absN b)).isInfinity = false := by
      have : absN b % 2147483648 = b % 2147483648 := by unfold absN; omega
      cases hi : single.read (absN b) with
      | infinity t =>
        have e1 := read_inf hi
        rw [this] at e1
        unfold Format.read at hr
        simp only [s1, s2, s3, s4, e1] at hr
        cases hr
      | number => rfl
      | nan => rfl
    by_cases h0 : m = 0
    · subst h0
      rw [double_word0, word_mod s 0 (by omega), double_read0]
      refine ⟨rfl, ?_, fun _ => hinf⟩
      have := nearest_read0 hr false
      rw [absN_word] at this
      rw [← this]
      show single.nearest false 0 (-1074) = single.nearest false 0 i
      simp [Format.nearest]
    · obtain ⟨rung, q1, q2, q3⟩ := double_word s m i h1 h2 h3 h0
      rw [q2, word_mod s rung (by rw [d2] at q1; omega), q3]
      exact ⟨rfl, nearest_read hr false _, fun _ => hinf⟩

/-- The size, as the model finds it. -/
theorem zero_less (b : Nat) (h : nanK .f32 b = false) (hs : (FloatKind.f32.format.order b 0 == some Ordering.lt || FloatKind.f32.format.order b 0 == some Ordering.eq) = true) : fop .f32 .sub (num .f32 0) (num .f32 b) = some (absN b) := by
  rw [fop_num]
  have hn := h
  rw [nanK_read] at hn
  have hf : FloatKind.f32.format = single := rfl
  rw [hf] at hn
  show Format.sub single 0 b = _
  have hs' : ((single.read b).order (single.read 0) == some Ordering.lt || (single.read b).order (single.read 0) == some Ordering.eq) = true := hs
  have z : single.read 0 = .number false 0 (-149) := by decide +kernel
  rw [z] at hs'
  unfold Format.sub
  rw [z]
  cases hr : single.read b with
  | nan s f => rw [hr] at hn; simp [Datum.isNaN] at hn
  | infinity s =>
    rw [hr] at hs'
    cases s
    · simp [Datum.order] at hs'
    · simp only [Datum.opposite, Datum.sum, Option.map_some, Format.write, Bool.not_true]
      show some (single.word false single.infRung) = some (absN b)
      unfold absN
      rw [read_inf hr, s2]
      rfl
  | number s m i =>
    rw [hr] at hs'
    obtain ⟨h1, h2, h3⟩ := single_number hr
    have hb : min (-149) i = -149 := by omega
    simp only [Datum.opposite, Datum.sum, hb, Option.map_some, Option.some.injEq]
    obtain ⟨k, hk⟩ : ∃ k : Nat, i = -149 + k := ⟨(i + 149).toNat, by omega⟩
    subst hk
    have ek : (-149 + (k : Int) - -149).toNat = k := by omega
    have e0 : ((-149 : Int) - -149).toNat = 0 := by omega
    rw [ek, e0]
    have hz : signed false 0 0 = 0 := rfl
    rw [hz, Int.zero_add]
    have hfin := nearest_read hr false k
    rw [show -149 + (k : Int) - (k : Int) = -149 by omega, absN_word] at hfin
    by_cases h0 : m = 0
    · subst h0
      have : signed (!s) 0 k = 0 := by cases s <;> simp [signed]
      rw [this]
      simp only [if_true, Bool.false_and, Int.natAbs_zero, Format.write]
      rw [← hfin]
      simp
    · have hs1 : s = true := by
        cases s
        · exfalso
          have e2 : min (-149 + (k : Int)) (-149) = -149 := by omega
          simp only [Datum.order, e2, ek, e0, hz] at hs'
          have hp : 0 < signed false m k := by
            unfold signed
            simp only [Bool.false_eq_true, if_false]
            have : m <<< k ≠ 0 := by rw [Nat.shiftLeft_eq]; exact Nat.mul_ne_zero h0 (Nat.pos_iff_ne_zero.1 (Nat.two_pow_pos k))
            generalize m <<< k = q at this
            omega
          generalize signed false m k = q at hp hs'
          have c : compare q 0 = Ordering.gt := by
            have q1 : ¬ q < 0 := by omega
            have q2 : ¬ q = 0 := by omega
            simp [compare, compareOfLessAndEq, q1, q2]
          rw [c] at hs'
          simp at hs'
        · rfl
      subst hs1
      have hp : signed (!true) m k = ((m <<< k : Nat) : Int) := rfl
      have hne : ((m <<< k : Nat) : Int) ≠ 0 := by
        have : m <<< k ≠ 0 := by rw [Nat.shiftLeft_eq]; exact Nat.mul_ne_zero h0 (Nat.pos_iff_ne_zero.1 (Nat.two_pow_pos k))
        omega
      rw [hp, if_neg hne, Int.natAbs_natCast]
      have hd : decide (((m <<< k : Nat) : Int) < 0) = false := by
        generalize m <<< k = q
        simp
      rw [hd]
      exact hfin

/-- A number that is greater than 0 is its own size. -/
theorem absN_pos (b : Nat) (hb : b < 4294967296) (h : nanK .f32 b = false) (hs : (FloatKind.f32.format.order b 0 == some Ordering.lt || FloatKind.f32.format.order b 0 == some Ordering.eq) = false) : absN b = b := by
  have hn := h
  rw [nanK_read] at hn
  have hf : FloatKind.f32.format = single := rfl
  rw [hf] at hn
  have hs' : ((single.read b).order (single.read 0) == some Ordering.lt || (single.read b).order (single.read 0) == some Ordering.eq) = false := hs
  have z : single.read 0 = .number false 0 (-149) := by decide +kernel
  rw [z] at hs'
  have key : ((single.read b).neg = false) := by
    cases hr : single.read b with
    | nan s f => rw [hr] at hn; simp [Datum.isNaN] at hn
    | infinity s =>
      rw [hr] at hs'
      cases s
      · rfl
      · simp [Datum.order] at hs'
    | number s m i =>
      cases s
      · rfl
      · exfalso
        rw [hr] at hs'
        have hle : signed true m (i - min i (-149)).toNat ≤ signed false 0 (-149 - min i (-149)).toNat := by
          unfold signed
          simp only [if_true, Nat.zero_shiftLeft, Bool.false_eq_true, if_false]
          generalize m <<< (i - min i (-149)).toNat = q
          omega
        simp only [Datum.order] at hs'
        rcases Int.lt_or_eq_of_le hle with q | q
        · simp [compare, compareOfLessAndEq, q] at hs'
        · simp [compare, compareOfLessAndEq, q] at hs'
  have : (single.read b).neg = (b / 2147483648 % 2 == 1) := by
    unfold Format.read
    simp only [s1, s2, s3, s4]
    split
    · rfl
    · split
      · rfl
      · split <;> rfl
  rw [this] at key
  unfold absN
  simp at key
  omega
end

section
open Go.RowKit Ieee
set_option linter.unusedSimpArgs false

/-- A number is finite. -/
def finB (b : Nat) : Bool := match single.read b with
  | .number .. => true
  | _ => false
/-- The same of a number up to which NaN it is. -/
def finO : Option Nat → Bool
  | some b => finB b
  | none => false

theorem fop_sub_self (b : Nat) : fop .f32 .sub (num .f32 b) (num .f32 b) = if finB b = true then some 0 else none := by
  rw [fop_num]
  show Format.sub single b b = _
  unfold Format.sub finB
  cases h : single.read b with
  | number s m i =>
    simp only [Datum.opposite, Datum.sum, if_true, Int.min_self, Int.sub_self]
    have e : signed s m (Int.toNat 0) + signed (!s) m (Int.toNat 0) = 0 := by
      cases s <;> simp [signed] <;> omega
    rw [e]
    simp [Format.write, Format.nearest]
    cases s <;> decide +kernel
  | infinity s => cases s <;> simp [Datum.opposite, Datum.sum]
  | nan s f => simp [Datum.opposite, Datum.sum]

theorem finB_num {a b : Nat} (h : num .f32 a = num .f32 b) : finB a = finB b := by
  cases ha : nanK .f32 a
  · rw [num_some ha] at h
    cases hb : nanK .f32 b
    · rw [num_some hb] at h
      rw [Option.some.inj h]
    · rw [num_none hb] at h; cases h
  · rw [num_none ha] at h
    have hb := num_eq_none h.symm
    rw [nanK_read] at ha hb
    unfold finB
    have f : FloatKind.f32.format = single := rfl
    rw [f] at ha hb
    cases h1 : single.read a <;> cases h2 : single.read b <;> simp [h1, h2, Datum.isNaN] at ha hb ⊢

theorem finO_num (b : Nat) : finO (num .f32 b) = finB b := by
  cases hb : nanK .f32 b
  · rw [num_some hb]; rfl
  · rw [num_none hb]
    rw [nanK_read] at hb
    have f : FloatKind.f32.format = single := rfl
    rw [f] at hb
    unfold finO finB
    cases h1 : single.read b <;> simp [h1, Datum.isNaN] at hb ⊢

set_option maxRecDepth 100000 in
theorem l01Finite_any (b : Nat) (w : World) : Calls Tryd.prog 68 #[.float .f32 b] w fun e w' => e = .returned (.bool (finB b)) ∧ Quiet w w' := by
  have hs := fop_sub_self b
  have HS := Lib.hid hs
  clear hs
  go_enter Tryd.func68, Tryd.ntmps68
  go_wp2_with (refine wpList_float rfl _ _ _ _ _ rfl rfl .f32 _ _ rfl rfl ?_; intro r n hr; have HR := Lib.hid (hr.trans HS.out); clear hr)
  cases hf : finB b
  · have h := HR.out
    rw [hf] at h
    have e : (FloatKind.f32.format.order r 0 == some Ordering.eq) = false := by
      have h1 := num_eq_none h
      rw [nanK_read] at h1
      unfold Format.order
      cases h2 : FloatKind.f32.format.read r <;> simp [h2, Datum.isNaN] at h1
      cases h3 : FloatKind.f32.format.read 0 <;> rfl
    go_ret
    exact ⟨ret_bool e, n, rfl⟩
  · have h := HR.out
    rw [hf] at h
    obtain ⟨rfl, _⟩ := num_eq_some h
    go_ret
    exact ⟨ret_bool (by decide +kernel), n, rfl⟩

/-- The size of a number, up to which NaN it is. -/
def sizeO (o : Option Nat) : Option Nat := o.map absN

theorem f64bits (b : Nat) (w : World) : (callFunc 100 #[.float .f64 b]).run Tryd.prog w = .ok (.value (.int .u64 b)) w := by kernel_rfl
theorem f64from (n : Nat) (w : World) : (callFunc 99 #[.int .u64 n]).run Tryd.prog w = .ok (.value (.float .f64 n)) w := by kernel_rfl

theorem andNot63 (x : Nat) : bits .andNot .u64 (x : Int) 9223372036854775808 = ((x % 9223372036854775808 : Nat) : Int) := by
  have h1 : (BitVec.ofInt 64 (x : Int)) = BitVec.ofNat 64 x := by rw [BitVec.ofInt_natCast]
  show IntKind.u64.wrap ((BitVec.ofInt 64 (x : Int) &&& ~~~ BitVec.ofInt 64 (9223372036854775808 : Int)).toNat : Int) = _
  have hn : (BitVec.ofInt 64 (x : Int) &&& ~~~ BitVec.ofInt 64 (9223372036854775808 : Int)).toNat = x % 9223372036854775808 := by
    rw [h1, show BitVec.ofInt 64 (9223372036854775808 : Int) = BitVec.ofNat 64 9223372036854775808 from rfl]
    apply Nat.eq_of_testBit_eq
    intro i
    rw [BitVec.testBit_toNat, BitVec.getLsbD_and, BitVec.getLsbD_not, BitVec.getLsbD_ofNat, BitVec.getLsbD_ofNat, show (9223372036854775808 : Nat) = 2 ^ 63 from rfl, Nat.testBit_mod_two_pow, Nat.testBit_two_pow]
    by_cases h : i < 63
    · have e : ¬ 63 = i := by omega
      have e2 : i < 64 := by omega
      simp [h, e, e2]
    · by_cases e : i = 63
      · subst e; simp
      · have e2 : ¬ i < 64 := by omega
        simp [h, e2]
  rw [hn, IntKind.wrap_u64]
  omega

set_option maxRecDepth 100000 in
theorem abs_any (x : Nat) (w : World) : Calls Tryd.prog 98 #[.float .f64 x] w fun e w' => e = .returned (.float .f64 (x % 9223372036854775808)) ∧ w = w' := by
  have h1 := f64bits
  have h2 : ∀ w, (callFunc 99 #[.int .u64 ((x : Int) % 9223372036854775808)]).run Tryd.prog w = .ok (.value (.float .f64 (x % 9223372036854775808))) w := fun w => f64from (x % 9223372036854775808) w
  have h3 := andNot63 x
  go_enter Tryd.func98, Tryd.ntmps98
  go_wp2_with (simp only [h3])
  go_ret
  exact ⟨rfl, rfl⟩

/-- A wide number that fits made narrow. -/
theorem run_narrow (P : Program) (w : World) (src dst : TypeId) (hs : P.underlying src = some (.float .f64)) (hd : P.underlying dst = some (.float .f32)) (x : Nat)
    (hf : nanK .f64 x = false → (FloatKind.f64.format.read x).isInfinity = false → (FloatKind.f32.format.read (FloatKind.f32.format.write (FloatKind.f64.format.read x))).isInfinity = false) :
    ∃ r n, num .f32 r = (if nanK .f64 x = true then none else some (FloatKind.f32.format.write (FloatKind.f64.format.read x))) ∧ (convert src dst (.float .f64 x)).run P w = .ok (.float .f32 r) (w.drewN n) := by
  cases hn : nanK .f64 x
  · have hn' : (FloatKind.f64.format.read x).isNaN = false := by rw [← hn, nanK_read]
    refine ⟨FloatKind.f32.format.write (FloatKind.f64.format.read x), 0, ?_, ?_⟩
    · rw [if_neg (by simp)]
      exact num_some (write_notnan .f32 _ hn')
    · refine run_convert_float_float w src dst .f64 .f32 x _ (by simp [hs]) hd ?_
      unfold floatToFloatBits
      show (if FloatKind.f64 = FloatKind.f32 then _ else _) = _
      rw [if_neg (by decide)]
      have hf' := hf hn
      show (match FloatKind.f64.format.read x with | .nan _ _ => _ | .infinity s => _ | .number s m e => _) = _
      cases hr : FloatKind.f64.format.read x with
      | number s m i =>
        rw [hr] at hf'
        have := hf' rfl
        simp [FloatKind.encode, FloatKind.decode, this]
      | infinity s => rfl
      | nan s f => rw [hr] at hn'; simp [Datum.isNaN] at hn'
  · have hn' : (FloatKind.f64.format.read x).isNaN = true := by rw [← hn, nanK_read]
    refine ⟨(Question.nanConv .f32 x).cut (w.tape w.drawn (.nanConv .f32 x)), 1, ?_, ?_⟩
    · rw [if_pos rfl]
      exact num_none (cut_nan .f32 0 0 (w.tape w.drawn (.nanConv .f32 x)))
    · cases hr : FloatKind.f64.format.read x with
      | number s m i => rw [hr] at hn'; simp [Datum.isNaN] at hn'
      | infinity s => rw [hr] at hn'; simp [Datum.isNaN] at hn'
      | nan s f =>
        have hd' : FloatKind.f64.decode x = .nan s f := hr
        simp [convert, run_underlying hs, run_underlying hd, Conv.floatToFloat, hd', Question.forced, World.drew_is_drewN]

/-- A CONVERSION TO A NARROW NUMBER, IN A WALK. -/
theorem wpList_narrow {P : Program} {ops : Array Oper} {rest : List Oper} {o : Oper} {a : Act} {w : World} {Q : Exit → Act → World → Prop} (hg : o.guard = none) (src dst : TypeId) (x : Operand)
    (ho : o.op = .convert src dst x) (hs : P.underlying src = some (.float .f64)) (hd : P.underlying dst = some (.float .f32)) (b : Nat) (hx : a.eval x = .float .f64 b)
    (hf : nanK .f64 b = false → (FloatKind.f64.format.read b).isInfinity = false → (FloatKind.f32.format.read (FloatKind.f32.format.write (FloatKind.f64.format.read b))).isInfinity = false)
    (h : ∀ r n, num .f32 r = (if nanK .f64 b = true then none else some (FloatKind.f32.format.write (FloatKind.f64.format.read b))) → wpList P ops Q rest (a.put o.dst (.float .f32 r)) (w.drewN n)) : wpList P ops Q (o :: rest) a w :=
  wpList_plain hg fun K hK => by
    obtain ⟨r, n, hr, hrun⟩ := run_narrow P w src dst hs hd b hf
    unfold Oper.wp execOp
    simp only [ho, hx]
    simp only [Sem.run_bind, hrun, Result.andThen]
    exact hK _ _ (h r n hr)

theorem nan_mod (x : Nat) : nanK .f64 (x % 9223372036854775808) = nanK .f64 x := by
  rw [nanK_read, nanK_read]
  show (double.read (x % 9223372036854775808)).isNaN = (double.read x).isNaN
  unfold Format.read
  simp only [d1, Nat.mod_mod]
  split
  · rfl
  · split
    · rfl
    · split <;> rfl

theorem size_wide {b r : Nat} (h : num .f64 r = (num .f32 b).map cv) :
    (nanK .f64 (r % 9223372036854775808) = false → (FloatKind.f64.format.read (r % 9223372036854775808)).isInfinity = false → (FloatKind.f32.format.read (FloatKind.f32.format.write (FloatKind.f64.format.read (r % 9223372036854775808)))).isInfinity = false) ∧
    (if nanK .f64 (r % 9223372036854775808) = true then none else some (FloatKind.f32.format.write (FloatKind.f64.format.read (r % 9223372036854775808)))) = sizeO (num .f32 b) := by
  cases hb : nanK .f32 b
  · rw [num_some hb] at h ⊢
    obtain ⟨rfl, hn⟩ := num_eq_some (b := cv b) h
    obtain ⟨h1, h2, h3⟩ := cv_abs b hb
    rw [nanK_read, h1, h2]
    exact ⟨fun _ => h3, rfl⟩
  · rw [num_none hb] at h ⊢
    have hn := num_eq_none (k := .f64) (a := r) h
    rw [nan_mod, hn]
    exact ⟨fun h => (by cases h), rfl⟩

set_option maxRecDepth 100000 in
theorem sizeOf_any (b : Nat) (w : World) : Calls Tryd.prog 89 #[.float .f32 b] w fun e w' => ∃ r, e = .returned (.float .f32 r) ∧ num .f32 r = sizeO (num .f32 b) ∧ Quiet w w' := by
  go_enter Tryd.func89, Tryd.ntmps89
  go_wp2_with (first | (refine wpList_conv rfl _ _ _ rfl Tryd.underlying23 Tryd.underlying41 _ rfl ?_; intro x n hx; have X := Lib.hid (size_wide hx); clear hx) | (go_at_call 98; refine (abs_any x _).mono ?_; rintro e w' ⟨rfl, rfl⟩) | (refine wpList_narrow rfl _ _ _ rfl Tryd.underlying41 Tryd.underlying23 _ rfl X.out.1 ?_; intro r m hr; have HR := Lib.hid hr; clear hr))
  go_ret
  exact ⟨r, rfl, HR.out.trans X.out.2, _, rfl⟩

theorem max_read : single.read 2139095039 = .number false 16777215 104 := by decide +kernel
theorem zero_read : single.read 0 = .number false 0 (-149) := by decide +kernel
theorem le_max (t : Bool) (m : Nat) (i : Int) (h1 : m < 16777216) (h3 : i ≤ 104) : (Datum.order (.number t m i) (.number false 16777215 104) == some Ordering.lt || Datum.order (.number t m i) (.number false 16777215 104) == some Ordering.eq) = true := by
  have e2 : min i (104 : Int) = i := by omega
  have e3 : (i - i).toNat = 0 := by omega
  obtain ⟨j, hj⟩ : ∃ j : Nat, (104 - i).toNat = j := ⟨_, rfl⟩
  have hq : 1 ≤ 2 ^ j := Nat.two_pow_pos j
  have hm : m ≤ 16777215 * 2 ^ j := by
    calc m ≤ 16777215 * 1 := by omega
      _ ≤ 16777215 * 2 ^ j := Nat.mul_le_mul_left _ hq
  have hle : signed t m 0 ≤ signed false 16777215 j := by
    have h0 : m <<< 0 ≤ 16777215 <<< j := by rw [Nat.shiftLeft_eq, Nat.shiftLeft_eq]; omega
    generalize hx : m <<< 0 = x at h0
    generalize hy : 16777215 <<< j = y at h0
    unfold signed
    rw [hx, hy]
    cases t
    · show (x : Int) ≤ (y : Int)
      omega
    · show -(x : Int) ≤ (y : Int)
      omega
  simp only [Datum.order, e2, e3, hj]
  generalize signed t m 0 = x at hle
  generalize signed false 16777215 j = y at hle
  rcases Int.lt_or_eq_of_le hle with h | h
  · simp [compare, compareOfLessAndEq, h]
  · simp [compare, compareOfLessAndEq, h]

theorem absN_read (b : Nat) : single.read (absN b) = match single.read b with
    | .number _ m i => .number false m i
    | .infinity _ => .infinity false
    | .nan _ f => .nan false f := by
  have e1 : b % 2147483648 / 2147483648 % 2 = 0 := by omega
  have e2 : b % 2147483648 % 2147483648 = b % 2147483648 := by omega
  unfold Format.read absN
  simp only [s1, s2, s3, s4, e1, e2]
  split
  · rfl
  · split
    · rfl
    · split <;> rfl
theorem size_le {b r : Nat} (h : num .f32 r = sizeO (num .f32 b)) : (FloatKind.f32.format.order r 2139095039 == some Ordering.lt || FloatKind.f32.format.order r 2139095039 == some Ordering.eq) = finB b := by
  show ((single.read r).order (single.read 2139095039) == some Ordering.lt || (single.read r).order (single.read 2139095039) == some Ordering.eq) = finB b
  rw [max_read]
  cases hb : nanK .f32 b
  · rw [num_some hb] at h
    obtain ⟨rfl, _⟩ := num_eq_some (b := absN b) h
    rw [absN_read]
    unfold finB
    cases h : single.read b with
    | number s m i =>
      obtain ⟨h1, _, h3⟩ := single_number h
      exact le_max false m i h1 h3
    | infinity s => rfl
    | nan s f => rfl
  · rw [num_none hb] at h
    have hn := num_eq_none (k := .f32) (a := r) h
    rw [nanK_read] at hn hb
    have hf : FloatKind.f32.format = single := rfl
    rw [hf] at hn hb
    unfold finB
    cases h1 : single.read r <;> cases h2 : single.read b <;> simp [h1, h2, Datum.isNaN] at hn hb ⊢
    simp [Datum.order]

theorem isFinite_any (b : Nat) (w : World) : Calls Tryd.prog 75 #[.float .f32 b] w fun e w' => e = .returned (.bool (finB b)) ∧ Quiet w w' := by
  go_enter Tryd.func75, Tryd.ntmps75
  go_wp2_with (go_at_call 89; refine (sizeOf_any b _).mono ?_; rintro e w' ⟨r, rfl, hr, hq⟩; have hs := Lib.hid (size_le hr); clear hr)
  go_ret
  exact ⟨ret_bool hs.out, hq⟩

/-- A number and its code, as a result. -/
def FI (b : Nat) (n : Int) : Value := .tuple #[.float .f32 b, .int .i64 n]
theorem ifFinite_any (b : Nat) (w : World) : Calls Tryd.prog 69 #[.float .f32 b] w fun e w' => e = .returned (if finB b = true then FI b 0 else FI 0 4) ∧ Quiet w w' := by
  cases hf : finB b
  · have hf' := Lib.hid hf
    clear hf
    go_enter Tryd.func69, Tryd.ntmps69
    go_wp2_with (go_at_call 75; have hc := (isFinite_any b w); rw [hf'.out] at hc; refine hc.mono ?_; clear hc; rintro e w' ⟨rfl, hq⟩)
    go_ret2
    exact ⟨rfl, hq⟩
  · have hf' := Lib.hid hf
    clear hf
    go_enter Tryd.func69, Tryd.ntmps69
    go_wp2_with (go_at_call 75; have hc := (isFinite_any b w); rw [hf'.out] at hc; refine hc.mono ?_; clear hc; rintro e w' ⟨rfl, hq⟩)
    go_ret2
    exact ⟨rfl, hq⟩
end

section
open Go.RowKit
set_option linter.unusedSimpArgs false

/-- The sum over the first cells, up to which NaN it is: from the number at 0 on. -/
def sumTo (G : Gd) (f : Nat → Nat) : Nat → Option Nat
  | 0 => num .f32 (f 0)
  | k + 1 => if isB G (k + 1) = true then fop .f32 .add (sumTo G f k) (num .f32 (f (k + 1))) else sumTo G f k

theorem num_some_num {o : Option Nat} {r : Nat} (h : num .f32 r = o) : num .f32 r = o := h

/-- A number that is told, up to which NaN it is; nothing is written. -/
def GivesN (o : Option Nat) (w : World) (e : Ending) (w' : World) : Prop := ∃ r, e = .returned (.float .f32 r) ∧ num .f32 r = o ∧ Quiet w w'

set_option maxRecDepth 100000 in
set_option maxHeartbeats 1000000 in
theorem l01Sum_any (G : Gd) (f : Nat → Nat) (p q : Nat) (w : World) (hp : GrdAt w p 0 G) (hG : GdOk G) (hq : w.rangeAt q 0 (Fld f).toList) :
    Calls Tryd.prog 67 #[.pointer (some ⟨p, 0, none⟩), .pointer (some ⟨q, 0, none⟩)] w (GivesN (sumTo G f 63) w) := by
  have Hp := Lib.hid hp
  have HG := Lib.hid hG
  have c0 := Grd_fld hq 0 (by omega)
  rw [Nat.zero_add] at c0
  have Cq := Lib.hid (Grd_fld hq)
  clear hp hG hq
  go_enter Tryd.func67, Tryd.ntmps67
  go_wp2
  go_loopw [5, 6] (fun s i wr => ∃ k b : Nat, k ≤ 63 ∧ i = .int .i64 ((k + 1 : Nat) : Int) ∧ s = .float .f32 b ∧ Hid (num .f32 b = sumTo G f k) ∧ Hid (Quiet w wr)) (fun _ i _ => 64 - (intOf i).toNat)
  case atStart => exact ⟨0, f 0, by omega, rfl, rfl, rfl, Quiet.refl _⟩
  case round =>
    obtain ⟨k, b, hk, rfl, rfl, hb, hQ⟩ := hrel
    by_cases hlt : k + 1 < 64
    · cases hi : isB G (k + 1)
      · have Hi := Lib.hid hi
        have E := Lib.hid (show sumTo G f (k + 1) = sumTo G f k by simp [sumTo, hi])
        clear hi
        go_wp2_with (go_at_call 64; refine (l01Is_is G (k + 1) hlt false Hi.out _ _ (Quiet.grd hQ.out Hp.out) HG.out).mono ?_; rintro e w' ⟨rfl, rfl⟩)
        go_roundw
        case rel => exact ⟨k + 1, b, by omega, by go_num, rfl, hb.out.trans E.out.symm, hQ.out⟩
        case measure => simp [intOf]; omega
      · have Hi := Lib.hid hi
        have E := Lib.hid (show sumTo G f (k + 1) = fop .f32 .add (sumTo G f k) (num .f32 (f (k + 1))) by simp [sumTo, hi])
        have c1 : wr.cell? ⟨q, 0 + (k + 1), none⟩ = some (.float .f32 (f (k + 1))) := (hQ.out.cell _).trans (Cq.out (k + 1) hlt)
        rw [Nat.zero_add] at c1
        clear hi
        go_wp2_with (first | (go_at_call 64; refine (l01Is_is G (k + 1) hlt true Hi.out _ _ (Quiet.grd hQ.out Hp.out) HG.out).mono ?_; rintro e w' ⟨rfl, rfl⟩) | (refine wpList_float rfl _ _ _ _ _ rfl rfl .f32 _ _ rfl rfl ?_; intro r n hr; have HR := Lib.hid hr; clear hr))
        go_roundw
        case rel => exact ⟨k + 1, r, by omega, by go_num, rfl, (HR.out.trans (by rw [E.out, hb.out])), hQ.out.drewN n⟩
        case measure => simp [intOf]; omega
    · obtain rfl : k = 63 := by omega
      go_wp2
      go_ret
      exact ⟨b, rfl, hb.out, hQ.out⟩
end

section
open Go.RowKit Go.Shelf
attribute [local go_sem] Oper.semAt_some run_store_float
set_option linter.unusedSimpArgs false

theorem bits_andNot (a b : Nat) (ha : a < 18446744073709551616) (hb : b < 18446744073709551616) : ∃ n : Nat, bits .andNot .u64 (a : Int) (b : Int) = (n : Int) ∧ n < 18446744073709551616 ∧ ∀ i, i < 64 → n.testBit i = (a.testBit i && !b.testBit i) := by
  have h1 : (BitVec.ofInt 64 (a : Int)).toNat = a := by
    rw [BitVec.ofInt_natCast, BitVec.toNat_ofNat]; exact Nat.mod_eq_of_lt (by omega)
  have h2 : (BitVec.ofInt 64 (b : Int)).toNat = b := by
    rw [BitVec.ofInt_natCast, BitVec.toNat_ofNat]; exact Nat.mod_eq_of_lt (by omega)
  refine ⟨(BitVec.ofInt 64 (a : Int) &&& ~~~ BitVec.ofInt 64 (b : Int)).toNat, ?_, ?_, fun i hi => ?_⟩
  · show IntKind.u64.wrap ((BitVec.ofInt 64 (a : Int) &&& ~~~ BitVec.ofInt 64 (b : Int)).toNat : Int) = _
    have := (BitVec.ofInt 64 (a : Int) &&& ~~~ BitVec.ofInt 64 (b : Int)).isLt
    rw [IntKind.wrap_u64]
    omega
  · have := (BitVec.ofInt 64 (a : Int) &&& ~~~ BitVec.ofInt 64 (b : Int)).isLt
    omega
  · rw [BitVec.testBit_toNat, BitVec.getLsbD_and, BitVec.getLsbD_not, ← BitVec.testBit_toNat, ← BitVec.testBit_toNat, h1, h2]
    simp [hi]

/-- A ground and a field are boxed. -/
theorem gf_box (G : Gd) (f : Nat → Nat) (t u : TypeId) (w : World) : ∃ W, (w.alloc (.cells (Grd G) t)).alloc (.cells (Fld f) u) = W ∧ W.heap.size = w.heap.size + 1 + 1 ∧ GBox W w.heap.size G ∧ W.rangeAt (w.heap.size + 1) 0 (Fld f).toList ∧ Below w.heap.size w W := by
  obtain ⟨W1, h1, z1, g1, b1⟩ := gbox1 G t w
  have b2 : Below W1.heap.size W1 (W1.alloc (.cells (Fld f) u)) := (Below.refl _ _).alloc (Nat.le_refl _) _
  rw [h1]
  exact ⟨_, rfl, by simp [z1], g1.below b2 (by omega), by rw [← z1]; exact rangeAt_row (heap_alloc_last W1 _), b1.trans (b2.mono (by omega))⟩


/-- A store of one number. -/
theorem store_f32 {P : Program} {op : Oper} {a : Act} {ty : TypeId} {x y : Operand} {b o v : Nat} {w : World} (ho : op.op = .store ty x y) (hx : a.eval x = .pointer (some ⟨b, o, none⟩)) (hy : a.eval y = .float .f32 v) (hi : (P.info? ty).map (·.size) = some 1) {u : Value} (hu : w.cell? ⟨b, o, none⟩ = some u) (hf : w.frozen? ⟨b, o, none⟩ = false) :
    (execOp a.eval op).run P w = .ok .skip (w.setCell ⟨b, o, none⟩ (.float .f32 v)) := by
  have hs : (sizeOf ty).run P w = .ok 1 w := by
    cases hq : P.info? ty with
    | none => simp [hq] at hi
    | some i => simp [hq] at hi; simp [sizeOf, typeInfo, hq, hi]
  unfold execOp
  simp only [ho, hx, hy]
  go_simp
theorem infoF32 : (Tryd.prog.info? 23).map (·.size) = some 1 := by kernel_rfl

/-- The sum over a list. -/
def sumL (f : Nat → Nat) (l : List Nat) : Option Nat := l.foldl (fun o i => fop .f32 .add o (num .f32 (f i))) (num .f32 (f 0))
theorem sumL_snoc (f : Nat → Nat) (l : List Nat) (i : Nat) : sumL f (l ++ [i]) = fop .f32 .add (sumL f l) (num .f32 (f i)) := by simp [sumL]
theorem sumL_bits (G : Gd) (f : Nat → Nat) (m : Nat) (h : ∀ i, i < 64 → m.testBit i = (isB G i && decide (i ≠ 0))) : sumL f (bitsL m) = sumTo G f 63 := by
  have key : ∀ k, k ≤ 63 → sumL f ((List.range (k + 1)).filter fun i => m.testBit i) = sumTo G f k := by
    intro k
    induction k with
    | zero =>
      intro _
      have h0 := h 0 (by omega)
      simp at h0
      simp [List.range_succ, h0, sumTo, sumL]
    | succ k ih =>
      intro hk
      rw [List.range_succ, List.filter_append]
      have h1 := h (k + 1) (by omega)
      have h2 : m.testBit (k + 1) = isB G (k + 1) := by rw [h1]; simp
      cases hi : isB G (k + 1)
      · rw [hi] at h2
        rw [List.filter_cons, h2, if_neg (by simp), List.filter_nil, List.append_nil, ih (by omega)]
        simp [sumTo, hi]
      · rw [hi] at h2
        rw [List.filter_cons, h2, if_pos rfl, List.filter_nil, sumL_snoc, ih (by omega)]
        simp [sumTo, hi]
  exact key 63 (by omega)

/-- A number that must be finite, and its code. -/
def finV : Option Nat → Value
  | some b => if finB b = true then FI b 0 else FI 0 4
  | none => FI 0 4
theorem finV_num {r : Nat} {o : Option Nat} (h : num .f32 r = o) : (if finB r = true then FI r 0 else FI 0 4) = finV o := by
  subst h
  cases hn : nanK .f32 r
  · rw [num_some hn]; rfl
  · rw [num_none hn]
    have : finB r = false := by
      rw [← finO_num, num_none hn]; rfl
    rw [this]
    rfl
def sumV (G : Gd) (f : Nat → Nat) : Value := if validB G = true then finV (sumTo G f 63) else FI 0 1

set_option maxRecDepth 100000 in
set_option maxHeartbeats 4000000 in
theorem implSum_valid (G : Gd) (f : Nat → Nat) (w : World) (hG : GdOk G) (hT : TabAt w) (hv : validB G = true) :
    Calls Tryd.prog 39 #[.agg (Grd G), .agg (Fld f)] w fun e w' => e = .returned (finV (sumTo G f 63)) ∧ Below w.heap.size w w' := by
  refine (callsIn_wide (n := 6)).1 (callsIn_of_wp_marks Tryd.func39 rfl trivial ?_ rfl)
  simp only [Tryd.ntmps39, List.size_toArray, List.length_cons, List.length_nil, Nat.reduceAdd, Nat.reduceSub, Array.replicate_succ, Array.replicate_zero, List.push_toArray, List.append_toArray, List.nil_append, List.cons_append]
  refine wpIn_wide.2 ?_
  go_upto_region 1 with (fail)
  obtain ⟨W, hW, hz, g1, r2, hB⟩ := gf_box G f 32 30 w
  rw [hW]
  clear hW
  have r1 := g1.range
  have c0 := Grd_fld r2 0 (by omega)
  rw [Nat.zero_add] at c0
  have G1 := Lib.hid g1
  have R2 := Lib.hid r2
  have HB := Lib.hid hB
  have HG := Lib.hid hG
  have HT := Lib.hid (hT.below hB (tab_lt hT))
  have Hv := Lib.hid hv
  clear g1 r2 hB hG hT hv
  go_upto_region 3 with (first | (refine wpList_load_mid rfl 32 _ rfl w.heap.size 0 rfl (GrdL G) _ r1 Tryd.underlying32 rfl (by rw [GrdL_length]; exact infoGround) ?_) | (go_at_call 49; have hc := (validGround_any G W HG.out HT.out (tab_lt HT.out)); rw [Hv.out] at hc; refine hc.mono ?_; clear hc; rintro e w1 ⟨rfl, hb1⟩))
  have z1 := hb1.size
  have p1 := G1.out.below hb1 (by omega)
  have q1 := Lib.hid (range_kept (n := W.heap.size) R2.out (by omega) _ hb1)
  have d0 := (hb1.cell (p := ⟨w.heap.size + 1, 0, none⟩) (by simp; omega)).trans c0
  have P1 := Lib.hid p1
  have HB1 := Lib.hid (HB.out.trans (hb1.mono (by omega)))
  have HT1 := Lib.hid (HT.out.below hb1 (tab_lt HT.out))
  clear r1 c0 p1 hb1
  go_upto_region 4 with (fail)
  obtain ⟨V, hV⟩ : ∃ V, w1.alloc (.cells #[.float .f32 (f 0)] 23) = V := ⟨_, rfl⟩
  rw [hV]
  have hbV : Below w1.heap.size w1 V := by rw [← hV]; exact (Below.refl _ _).alloc (Nat.le_refl _) _
  have P2 := Lib.hid (P1.out.below hbV (by omega))
  obtain ⟨m, hm, hm64, hmt⟩ := bits_andNot (cellsN G) 1 (cellsN_lt G) (by omega)
  have hm' : bits .andNot .u64 (cellsN G : Int) 1 = (m : Int) := hm
  have hS := sumL_bits G f m (fun i hi => by rw [hmt i hi, cellsN_testBit, show (1 : Nat) = 2 ^ 0 from rfl, Nat.testBit_two_pow]; simp [hi]; cases i <;> simp)
  have HS := Lib.hid hS
  clear hS hmt
  go_wp2_with (first | (go_at_call 57; refine (cells_valid G Hv.out _ _ P2.out.at').mono ?_; rintro e w' ⟨rfl, rfl⟩) | (go_at_call 59; refine (bitsIn_any m _).mono ?_; rintro e w' ⟨rfl, rfl⟩))
  have zV : V.heap.size = w1.heap.size + 1 := by rw [← hV]; simp
  have cS : V.cell? ⟨w1.heap.size, 0, none⟩ = some (.float .f32 (f 0)) := by rw [← hV]; exact cell_of_row _ _ 0 _ _ _ (heap_alloc_last w1 _)
  have fS : V.frozen? ⟨w1.heap.size, 0, none⟩ = false := by rw [← hV]; have := (there_row (n := 1) (heap_alloc_last w1 (.cells #[.float .f32 (f 0)] 23)) rfl 0 (by omega)).2; rwa [Nat.zero_add] at this
  obtain ⟨X, hX⟩ : ∃ X, V.alloc (.cells #[.int .u64 m] 25) = X := ⟨_, rfl⟩
  have hbX : Below V.heap.size V X := by rw [← hX]; exact (Below.refl _ _).alloc (Nat.le_refl _) _
  have cM : X.cell? ⟨V.heap.size, 0, none⟩ = some (.int .u64 m) := by rw [← hX]; exact cell_of_row _ _ 0 _ _ _ (heap_alloc_last V _)
  have zX : X.heap.size = V.heap.size + 1 := by rw [← hX]; simp
  have cS' := (hbX.cell (p := ⟨w1.heap.size, 0, none⟩) (by simp; omega)).trans cS
  have fS' := (hbX.frozen (p := ⟨w1.heap.size, 0, none⟩) (by simp; omega)).trans fS
  have hB1X := below_step (hbV) (hbX) (by omega)
  have TX := (HT1.out.below hB1X (tab_lt HT1.out))
  have qX := range_kept (n := w1.heap.size) q1.out (by omega) _ hB1X
  have glt : 0 < w1.heap.size := tab_lt HT1.out
  have HBX := Lib.hid (HB1.out.trans (hB1X.mono (by omega)))
  rw [hX]
  clear hX hV hbV hbX cS fS d0 hm' hm P2 P1
  refine (wpIn_wide (n := 6)).1 (wp_bits 15 16 7 V.heap.size w1.heap.size m hm64 rfl cM TX glt (by omega)
    (fun pre W2 => ∃ b, W2.cell? ⟨w1.heap.size, 0, none⟩ = some (.float .f32 b) ∧ W2.frozen? ⟨w1.heap.size, 0, none⟩ = false ∧ num .f32 b = sumL f pre)
    (fun _ _ _ => False)
    (fun s A B h ⟨b, h1, h2, h3⟩ => ⟨b, h.cell h1, (h.frozen h1).trans h2, h3⟩) (fun _ _ _ _ _ h => h) ⟨f 0, cS', fS', rfl⟩ ?assign ?body ?done ?stop)
  case assign =>
    intro l x W K hK
    simp only [List.setIfInBounds_toArray, List.set_cons_zero, List.set_cons_succ] at hK ⊢
    gi_wp2
    exact hK
  case body =>
    rintro l pre x W2 ⟨b, h1, h2, h3⟩ hB2 _ hx64
    simp only [List.setIfInBounds_toArray, List.set_cons_zero, List.set_cons_succ]
    have c1 := Grd_fld (range_kept (n := w1.heap.size) qX (by omega) _ hB2) x.1 hx64
    have C0 : ∀ w', Quiet W2 w' → w'.cell? ⟨w1.heap.size, 0, none⟩ = some (.float .f32 b) := fun w' h => (h.cell _).trans h1
    have C1 : ∀ w', Quiet W2 w' → w'.cell? ⟨w.heap.size + 1, 0 + x.1, none⟩ = some (.float .f32 (f x.1)) := fun w' h => (h.cell _).trans c1
    refine wpIn_block ?_
    refine wpIn_region_calm (ops' := regOf Tryd.f39 6) [0, 1, 2, 3, 4] [5] (.run 5 .fin) (Quiet W2) [(0, One (.float .f32 b)), (1, One (.int .i64 x.1)), (2, One (.pointer (some ⟨w.heap.size + 1, 0 + x.1, none⟩))), (3, One (.float .f32 (f x.1))), (4, Numv .f32 (fop .f32 .add (num .f32 b) (num .f32 (f x.1))))] (by kernel_rfl) (by kernel_rfl) (by kernel_rfl) (by kernel_rfl) (by kernel_rfl) (by kernel_rfl) (by kernel_rfl) (by kernel_rfl) (by kernel_rfl) rfl ((Quiet.refl _).drewN 1) ?_
    refine calm_read (some 17) (by kernel_rfl) (by kernel_rfl) (by kernel_rfl) (fun w' hw' => load_cell (ty := 23) (x := .tmp 6) (b := w1.heap.size) (o := 0) (by kernel_rfl) (by kernel_rfl) Tryd.underlying23 rfl (C0 w' hw')) ?_
    refine calm_pure (some 18) (by kernel_rfl) (by kernel_rfl) (by kernel_rfl) (fun _ => by kernel_rfl) ?_
    refine calm_pure (some 19) (by kernel_rfl) (by kernel_rfl) (by kernel_rfl) (index_fld (x := .tmp 3) (y := .tmp 18) (o := 0) (by kernel_rfl) (by kernel_rfl) (by kernel_rfl) hx64) ?_
    refine calm_read (some 20) (by kernel_rfl) (by kernel_rfl) (by kernel_rfl) (fun w' hw' => load_cell (ty := 23) (x := .tmp 19) (b := w.heap.size + 1) (o := 0 + x.1) (by kernel_rfl) (by kernel_rfl) Tryd.underlying23 rfl (C1 w' hw')) ?_
    refine calm_float (some 21) .f32 .add 23 23 (.tmp 17) (.tmp 20) (b) (f x.1) (by kernel_rfl) (by kernel_rfl) (by kernel_rfl) (by kernel_rfl) rfl (by kernel_rfl) (by kernel_rfl) (fun _ n h => h.drewN n) (rfl) ?_
    intro r hr
    refine calm_end fun w' hw' => plan_do none undef (w'.setCell ⟨w1.heap.size, 0, none⟩ (.float .f32 r)) (by kernel_rfl) (by kernel_rfl) (by kernel_rfl) (.inr ⟨store_f32 (x := .tmp 6) (y := .tmp 21) (by kernel_rfl) (by kernel_rfl) (by kernel_rfl) infoF32 (C0 w' hw') (by obtain ⟨n, rfl⟩ := hw'; exact h2), rfl⟩) trivial (plan_end (Clean.normal ?_))
    obtain ⟨n, rfl⟩ := hw'
    have k1 : KeepsOthers W2 ((World.drewN W2 n).setCell ⟨w1.heap.size, 0, none⟩ (.float .f32 r)) := KeepsOthers.trans (B := World.drewN W2 n) ⟨Nat.le_refl _, fun _ _ h _ => h⟩ (KeepsOthers.setCell _ _ _)
    have k2 : Below w1.heap.size W2 ((World.drewN W2 n).setCell ⟨w1.heap.size, 0, none⟩ (.float .f32 r)) := (Quiet.below ⟨n, rfl⟩ _).setCell (p := ⟨w1.heap.size, 0, none⟩) (Nat.le_refl _) _
    have k3 : (fun pre W2 => ∃ b, World.cell? W2 ⟨w1.heap.size, 0, none⟩ = some (.float .f32 b) ∧ W2.frozen? ⟨w1.heap.size, 0, none⟩ = false ∧ num .f32 b = sumL f pre) (nos (pre ++ [x])) ((World.drewN W2 n).setCell ⟨w1.heap.size, 0, none⟩ (.float .f32 r)) := ⟨r, World.cell?_setCell_same' _ _ _ (by rw [show (World.drewN W2 n).cell? ⟨w1.heap.size, 0, none⟩ = _ from h1]; rfl), (by rw [World.frozen?_setCell]; exact h2), (by rw [nos_snoc, sumL_snoc, hr, h3])⟩
    exact ⟨k1, k2, k3, hB2.trans k2⟩
  case done =>
    rintro D W2 hD ⟨b, h1, h2, h3⟩ hB2 hK
    have HV := Lib.hid (finV_num (h3.trans HS.out))
    have HB3 := Lib.hid (HBX.out.trans (hB2.mono (by omega)))
    clear h2 h3 cS' fS' cM TX qX hB1X hB2
    cases hf : finB b
    · have Hf := Lib.hid hf
      have Hv2 := Lib.hid (show FI 0 4 = finV (sumTo G f 63) by rw [← HV.out, hf]; rfl)
      clear hf HV
      go_wp2_with (go_at_call 69; have hc := (ifFinite_any b W2); rw [Hf.out, if_neg (by decide)] at hc; refine hc.mono ?_; clear hc; rintro e w' ⟨rfl, nq, rfl⟩; unfold FI)
      exact ret_marks (W := W2.drewN nq) hK (fun W' _ => by simp [results, Tryd.results39, go_sem] <;> rfl) (fun W' _ hb => ⟨congrArg Ending.returned Hv2.out, (HB3.out.trans (Quiet.below ⟨nq, rfl⟩ _)).trans (hb _ (by omega))⟩)
    · have Hf := Lib.hid hf
      have Hv2 := Lib.hid (show FI b 0 = finV (sumTo G f 63) by rw [← HV.out, hf]; rfl)
      clear hf HV
      go_wp2_with (go_at_call 69; have hc := (ifFinite_any b W2); rw [Hf.out, if_pos rfl] at hc; refine hc.mono ?_; clear hc; rintro e w' ⟨rfl, nq, rfl⟩; unfold FI)
      exact ret_marks (W := W2.drewN nq) hK (fun W' _ => by simp [results, Tryd.results39, go_sem] <;> rfl) (fun W' _ hb => ⟨congrArg Ending.returned Hv2.out, (HB3.out.trans (Quiet.below ⟨nq, rfl⟩ _)).trans (hb _ (by omega))⟩)
  case stop =>
    rintro D c pre W _ _ h _ _
    exact h.elim
end

section
open Go.RowKit Go.ChangeShapes Go.WideShapes Go.ChangeAt

/-- Greater than 0, as the walk spells it. -/
def pos (a : Nat) : Bool := FloatKind.f32.format.order a 0 == some Ordering.gt
/-- The joint of two numbers, up to which NaN it is. -/
def joint (a b : Nat) : Option Nat :=
  if (pos a && pos b) = true then fop .f32 .quo (fop .f32 .mul (num .f32 1073741824) (fop .f32 .mul (num .f32 a) (num .f32 b))) (fop .f32 .add (num .f32 a) (num .f32 b)) else num .f32 0

/-- A number that is o, up to which NaN it is; only answers have been drawn. -/
def Gives (o : Option Nat) (w : World) (e : Ending) (w' : World) : Prop := ∃ r n, e = .returned (.float .f32 r) ∧ num .f32 r = o ∧ w' = w.drewN n

set_option maxRecDepth 100000 in
theorem l01Joint_any (a b : Nat) (w : World) : Calls Tryd.prog 95 #[.float .f32 a, .float .f32 b] w (Gives (joint a b) w) := by
  cases ha : pos a <;> cases hb : pos b
  · have hj : joint a b = num .f32 0 := by simp [joint, ha, hb]
    rw [hj]; clear hj; unfold pos at ha hb
    go_enter Tryd.func95, Tryd.ntmps95
    go_wp2
    go_ret
    exact ⟨0, 0, rfl, rfl, rfl⟩
  · have hj : joint a b = num .f32 0 := by simp [joint, ha, hb]
    rw [hj]; clear hj; unfold pos at ha hb
    go_enter Tryd.func95, Tryd.ntmps95
    go_wp2
    go_ret
    exact ⟨0, 0, rfl, rfl, rfl⟩
  · have hj : joint a b = num .f32 0 := by simp [joint, ha, hb]
    rw [hj]; clear hj; unfold pos at ha hb
    go_enter Tryd.func95, Tryd.ntmps95
    go_wp2
    go_ret
    exact ⟨0, 0, rfl, rfl, rfl⟩
  · have hj : joint a b = fop .f32 .quo (fop .f32 .mul (num .f32 1073741824) (fop .f32 .mul (num .f32 a) (num .f32 b))) (fop .f32 .add (num .f32 a) (num .f32 b)) := by simp [joint, ha, hb]
    have Hj := Lib.hid hj
    clear hj; unfold pos at ha hb
    go_enter Tryd.func95, Tryd.ntmps95
    have t1 : True := trivial
    have t2 : True := trivial
    have t3 : True := trivial
    go_wp2_with (first | (have _t := t1; refine wpList_float rfl _ _ _ _ _ rfl rfl .f32 _ _ rfl rfl ?_; intro r1 n1 hr1; have H1 := Lib.hid hr1; clear t1 hr1) | (have _t := t2; refine wpList_float rfl _ _ _ _ _ rfl rfl .f32 _ _ rfl rfl ?_; intro r2 n2 hr2; have H2 := Lib.hid hr2; clear t2 hr2) | (have _t := t3; refine wpList_float rfl _ _ _ _ _ rfl rfl .f32 _ _ rfl rfl ?_; intro r3 n3 hr3; have H3 := Lib.hid hr3; clear t3 hr3) | (refine wpList_float rfl _ _ _ _ _ rfl rfl .f32 _ _ rfl rfl ?_; intro r4 n4 hr4; have H4 := Lib.hid hr4; clear hr4))
    go_ret
    exact ⟨r4, _, rfl, by rw [Hj.out, H4.out, H3.out, H2.out, H1.out], rfl⟩

set_option maxRecDepth 100000 in
theorem jointOf_any (a b : Nat) (w : World) : Calls Tryd.prog 96 #[.float .f32 a, .float .f32 b] w (Gives (joint a b) w) := by
  cases ha : pos a <;> cases hb : pos b
  · have hj : joint a b = num .f32 0 := by simp [joint, ha, hb]
    rw [hj]; clear hj; unfold pos at ha hb
    go_enter Tryd.func96, Tryd.ntmps96
    go_wp2
    go_ret
    exact ⟨0, 0, rfl, rfl, rfl⟩
  · have hj : joint a b = num .f32 0 := by simp [joint, ha, hb]
    rw [hj]; clear hj; unfold pos at ha hb
    go_enter Tryd.func96, Tryd.ntmps96
    go_wp2
    go_ret
    exact ⟨0, 0, rfl, rfl, rfl⟩
  · have hj : joint a b = num .f32 0 := by simp [joint, ha, hb]
    rw [hj]; clear hj; unfold pos at ha hb
    go_enter Tryd.func96, Tryd.ntmps96
    go_wp2
    go_ret
    exact ⟨0, 0, rfl, rfl, rfl⟩
  · have hj : joint a b = fop .f32 .quo (fop .f32 .mul (num .f32 1073741824) (fop .f32 .mul (num .f32 a) (num .f32 b))) (fop .f32 .add (num .f32 a) (num .f32 b)) := by simp [joint, ha, hb]
    have Hj := Lib.hid hj
    clear hj; unfold pos at ha hb
    go_enter Tryd.func96, Tryd.ntmps96
    have t1 : True := trivial
    have t2 : True := trivial
    have t3 : True := trivial
    go_wp2_with (first | (have _t := t1; refine wpList_float rfl _ _ _ _ _ rfl rfl .f32 _ _ rfl rfl ?_; intro r1 n1 hr1; have H1 := Lib.hid hr1; clear t1 hr1) | (have _t := t2; refine wpList_float rfl _ _ _ _ _ rfl rfl .f32 _ _ rfl rfl ?_; intro r2 n2 hr2; have H2 := Lib.hid hr2; clear t2 hr2) | (have _t := t3; refine wpList_float rfl _ _ _ _ _ rfl rfl .f32 _ _ rfl rfl ?_; intro r3 n3 hr3; have H3 := Lib.hid hr3; clear t3 hr3) | (refine wpList_float rfl _ _ _ _ _ rfl rfl .f32 _ _ rfl rfl ?_; intro r4 n4 hr4; have H4 := Lib.hid hr4; clear hr4))
    go_ret
    exact ⟨r4, _, rfl, by rw [Hj.out, H4.out, H3.out, H2.out, H1.out], rfl⟩

end

section
open Go.RowKit
set_option linter.unusedSimpArgs false

theorem joint_ex (a b : Nat) : ∃ r, num .f32 r = joint a b := by
  unfold joint
  split
  · exact fop_ex _ _ rfl _ _ (fop_ex _ _ rfl _ _ (num_ex _ _) (fop_ex _ _ rfl _ _ (num_ex _ _) (num_ex _ _))) (fop_ex _ _ rfl _ _ (num_ex _ _) (num_ex _ _))
  · exact num_ex _ _
theorem givesN_of {o : Option Nat} {w : World} {e : Ending} {w' : World} (h : Gives o w e w') : GivesN o w e w' := by
  obtain ⟨r, n, h1, h2, h3⟩ := h
  exact ⟨r, h1, h2, n, h3⟩
end

section
open Go.RowKit
section
variable {F : Fence} {n : Nat} {P : Program} {ops : Array Oper} {rest : List Oper} {o : Oper} {a : Act} {w : World} {Q : Exit → Act → World → Prop}
theorem st_stage (ty : TypeId) {x y : Operand} (_ : o.op = .store ty x y) (h : wpList P ops Q (o :: rest) a w) : wpList P ops Q (o :: rest) a w := h
theorem stI_stage (ty : TypeId) {x y : Operand} (_ : o.op = .store ty x y) (h : wpListIn F n P ops Q (o :: rest) a w) : wpListIn F n P ops Q (o :: rest) a w := h
theorem ld_stage (ty : TypeId) {x : Operand} (_ : o.op = .load ty x) (h : wpList P ops Q (o :: rest) a w) : wpList P ops Q (o :: rest) a w := h
theorem ldI_stage (ty : TypeId) {x : Operand} (_ : o.op = .load ty x) (h : wpListIn F n P ops Q (o :: rest) a w) : wpListIn F n P ops Q (o :: rest) a w := h
end
end

section
open Go.RowKit
set_option linter.unusedSimpArgs false
set_option linter.unusedVariables false

theorem absN_lt (b : Nat) : absN b < 4294967296 := by unfold absN; omega
end

section
open Go.RowKit
set_option linter.unusedSimpArgs false

/-- Another mask. -/
def fixX (x : Int) (k : Nat) (b : Bool) : Int := if b = true then bits .or .u64 x (IntKind.u64.wrap (2 ^ k)) else bits .andNot .u64 x (IntKind.u64.wrap (2 ^ k))

theorem pow_lt (k : Nat) (hk : k < 64) : 2 ^ k < 18446744073709551616 := by
  have : 2 ^ k < 2 ^ 64 := Nat.pow_lt_pow_right (by decide) hk
  simpa using this
/-- The bit is struck, and set again. -/
theorem or_andNot (x k : Nat) (hx : x < 18446744073709551616) (hk : k < 64) :
    bits .or .u64 (bits .andNot .u64 (x : Int) (IntKind.u64.wrap (2 ^ k))) (IntKind.u64.wrap (2 ^ k)) = bits .or .u64 (x : Int) (IntKind.u64.wrap (2 ^ k)) := by
  rw [wrap_pow k hk]
  obtain ⟨n, h1, h2, h3⟩ := bits_andNot x (2 ^ k) hx (pow_lt k hk)
  rw [h1, bits_or_u64_nat n _ h2 (pow_lt k hk), bits_or_u64_nat x _ hx (pow_lt k hk)]
  congr 1
  apply Nat.eq_of_testBit_eq
  intro i
  rw [Nat.testBit_or, Nat.testBit_or]
  by_cases hi : i < 64
  · rw [h3 i hi]
    cases x.testBit i <;> cases (2 ^ k).testBit i <;> rfl
  · have hb : ∀ m : Nat, m < 18446744073709551616 → m.testBit i = false := fun m hm => Nat.testBit_lt_two_pow (Nat.lt_of_lt_of_le (by simpa using hm : m < 2 ^ 64) (Nat.pow_le_pow_right (by decide) (by omega)))
    rw [hb n h2, hb x hx]
theorem fixX_has (x k : Nat) (b : Bool) (hx : x < 18446744073709551616) (hk : k < 64) : IntKind.u64.has (fixX x k b) := by
  unfold fixX
  rw [wrap_pow k hk]
  split
  · rw [bits_or_u64_nat x _ hx (pow_lt k hk)]
    have : x ||| 2 ^ k < 2 ^ 64 := Nat.or_lt_two_pow (by simpa using hx) (by simpa using pow_lt k hk)
    have h2 : x ||| 2 ^ k < 18446744073709551616 := by simpa using this
    generalize x ||| 2 ^ k = n at h2
    exact ⟨(by show (0 : Int) ≤ n; omega), (by show (n : Int) ≤ 18446744073709551615; omega)⟩
  · obtain ⟨n, h1, h2, _⟩ := bits_andNot x (2 ^ k) hx (pow_lt k hk)
    rw [h1]
    exact ⟨(by show (0 : Int) ≤ n; omega), (by show (n : Int) ≤ 18446744073709551615; omega)⟩

theorem shl_op {op : Oper} {a : Act} {x y : Operand} {k : Nat} {t : TypeId} (ho : op.op = .binOp .shl 25 x y t) (hx : a.eval x = .int .u64 1) (hy : a.eval y = .int .i64 k) (hk : k < 64) (w : World) :
    (execOp a.eval op).run Tryd.prog w = .ok (.value (.int .u64 (IntKind.u64.wrap (2 ^ k)))) w := by
  unfold execOp
  simp only [ho, hx, hy]
  go_simp
/-- A store of bits. -/
theorem store_u64 {P : Program} {op : Oper} {a : Act} {ty : TypeId} {x y : Operand} {b o : Nat} {v : Int} {w : World} (ho : op.op = .store ty x y) (hx : a.eval x = .pointer (some ⟨b, o, none⟩)) (hy : a.eval y = .int .u64 v) (hi : (P.info? ty).map (·.size) = some 1) {u : Value} (hu : w.cell? ⟨b, o, none⟩ = some u) (hf : w.frozen? ⟨b, o, none⟩ = false) :
    (execOp a.eval op).run P w = .ok .skip (w.setCell ⟨b, o, none⟩ (.int .u64 v)) := by
  have hs : (sizeOf ty).run P w = .ok 1 w := by
    cases hq : P.info? ty with
    | none => simp [hq] at hi
    | some i => simp [hq] at hi; simp [sizeOf, typeInfo, hq, hi]
  unfold execOp
  simp only [ho, hx, hy]
  go_simp
theorem infoU64 : (Tryd.prog.info? 25).map (·.size) = some 1 := by kernel_rfl

/-- The ground that WithFixed makes. -/
def fixG (G : Gd) (c : Int) (b : Bool) : Gd := { G with x := fixX G.x c.toNat b }
theorem ok_x {G : Gd} {k : Nat} {b : Bool} (hG : GdOk G) (hk : k < 64) : GdOk (fixG G k b) := by
  have h := hG.x'
  obtain ⟨x, hx⟩ : ∃ x : Nat, G.x = x := ⟨G.x.toNat, by omega⟩
  refine ⟨hG.wide, hG.high, ?_, hG.c, hG.g, hG.h⟩
  show IntKind.u64.has (fixX G.x (Int.toNat (k : Int)) b)
  rw [hx, Int.toNat_natCast]
  exact fixX_has x k b (by omega) hk

set_option maxRecDepth 100000 in
set_option maxHeartbeats 1000000 in
theorem specWithFixed_any (G : Gd) (c : Int) (b : Bool) (w : World) (hG : GdOk G) :
    Calls Tryd.prog 33 #[.agg (Grd G), .int .i64 c, .bool b] w fun e w' => e = .returned (GN (withG G (fixG G c b) c) (withN G (fixG G c b) c)) ∧ Below w.heap.size w w' := by
  have hz := (zero_of_info zeroGround).1
  go_enter Tryd.func33, Tryd.ntmps33
  go_upto_region 1 with (fail)
  obtain ⟨W, hW, hs, g1, g2, hB⟩ := gbox2 G zG 32 32 w
  rw [hW]
  clear hW
  have G1 := Lib.hid g1
  have HB := Lib.hid hB
  have HG := Lib.hid hG
  have q2 := Lib.hid (fun n => (g2.below (Quiet.below ⟨n, rfl⟩ (w.heap.size + 1 + 1)) (by omega) : GBox (World.drewN W n) (w.heap.size + 1) zG))
  have q1 := Lib.hid (fun n => (g1.below (Quiet.below ⟨n, rfl⟩ (w.heap.size + 1)) (by omega) : GBox (World.drewN W n) w.heap.size G))
  have Hs := Lib.hid hs
  clear g1 g2 hB hG hs
  by_cases ha : askedN G c = 0
  · obtain ⟨k, rfl, hk, _, _⟩ := asked_in ha
    have R1 := Lib.hid (show withG G (fixG G k b) k = madeG (fixG G k b) by simp only [withG, ha, if_true])
    have R2 := Lib.hid (show withN G (fixG G k b) k = madeN (fixG G k b) by simp only [withN, ha, if_true])
    have Ha := Lib.hid ha
    clear ha
    go_upto_region 5 with (go_at_call 60; have hc := (l01Asked_any G k _ _ G1.out.at' HG.out); rw [Ha.out] at hc; refine hc.mono ?_; clear hc; rintro e w' ⟨rfl, n, rfl⟩)
    obtain ⟨V, hV⟩ : ∃ V, World.drewN W n = V := ⟨_, rfl⟩
    have p1 := q1.out n
    have p2 := q2.out n
    have B1 := Lib.hid (HB.out.trans (Quiet.below ⟨n, rfl⟩ _ : Below w.heap.size W (World.drewN W n)))
    have z1 : V.heap.size = w.heap.size + 1 + 1 := by rw [← hV]; exact Hs.out
    rw [hV] at p1 p2 B1 ⊢
    have a5 := p1.at'.x
    rw [Nat.zero_add] at a5
    have f5 := p1.free 194 (by omega)
    have P3 := Lib.hid (p1.putX (x := bits .andNot .u64 G.x (IntKind.u64.wrap (2 ^ k))))
    have P4 := Lib.hid (p2.far (b' := w.heap.size) (k := 194) (v := .int .u64 (bits .andNot .u64 G.x (IntKind.u64.wrap (2 ^ k)))) (by omega))
    have B2 := Lib.hid (B1.out.setCell (p := ⟨w.heap.size, 194, none⟩) (Nat.le_refl _) (.int .u64 (bits .andNot .u64 G.x (IntKind.u64.wrap (2 ^ k)))))
    clear p1 p2 hV q1 q2 G1
    go_upto_region 6 with (fail)
    obtain ⟨X, hX⟩ : ∃ X, V.setCell ⟨w.heap.size, 194, none⟩ (.int .u64 (bits .andNot .u64 G.x (IntKind.u64.wrap (2 ^ k)))) = X := ⟨_, rfl⟩
    have z2 : X.heap.size = w.heap.size + 1 + 1 := by rw [← hX, World.size_setCell]; exact z1
    rw [hX] at P3 P4 B2 ⊢
    clear hX a5 f5
    cases b
    · have P3' : Hid (GBox X w.heap.size (fixG G k false)) := Lib.hid (by have := P3.out; simpa [fixG, fixX] using this)
      go_wp2_with (first | (go_at_call 61; refine (l01Made_any (fixG G k false) _ _ P3'.out.at' (by omega) (ok_x HG.out hk)).mono ?_; rintro e Y ⟨rfl, hy⟩; unfold GN; have P5 := Lib.hid (P4.out.below hy (by omega))) | (refine wpList_store_mid rfl 32 _ _ rfl _ 0 (Grd (madeG (fixG G k false))) rfl rfl (by rw [Grd_size]; exact P5.out.there) (by rw [Grd_size]; exact infoGround) (Grd_one _) ?_))
      refine bodyPost_ret (ret_GN rfl rfl rfl P5.out.store.range) rfl ⟨by rw [R1.out, R2.out], below_setCells _ (by omega) _ _ _ (B2.out.trans (hy.mono (by omega)))⟩
    · have a6 := P3.out.at'.x
      rw [Nat.zero_add] at a6
      have f6 := P3.out.free 194 (by omega)
      have hx' := HG.out.x'
      have e0 : bits .or .u64 (bits .andNot .u64 G.x (IntKind.u64.wrap (2 ^ k))) (IntKind.u64.wrap (2 ^ k)) = bits .or .u64 G.x (IntKind.u64.wrap (2 ^ k)) := by
        obtain ⟨x, hx⟩ : ∃ x : Nat, G.x = x := ⟨G.x.toNat, by omega⟩
        rw [hx]
        exact or_andNot x k (by omega) hk
      have P6 := Lib.hid (P3.out.putX (x := bits .or .u64 (bits .andNot .u64 G.x (IntKind.u64.wrap (2 ^ k))) (IntKind.u64.wrap (2 ^ k))))
      have P7 := Lib.hid (P4.out.far (b' := w.heap.size) (k := 194) (v := .int .u64 (bits .or .u64 (bits .andNot .u64 G.x (IntKind.u64.wrap (2 ^ k))) (IntKind.u64.wrap (2 ^ k)))) (by omega))
      have B3 := Lib.hid (B2.out.setCell (p := ⟨w.heap.size, 194, none⟩) (Nat.le_refl _) (.int .u64 (bits .or .u64 (bits .andNot .u64 G.x (IntKind.u64.wrap (2 ^ k))) (IntKind.u64.wrap (2 ^ k)))))
      have E0 := Lib.hid e0
      clear e0 P3 P4
      go_upto_region 8 with (fail)
      obtain ⟨Z, hZ⟩ : ∃ Z, X.setCell ⟨w.heap.size, 194, none⟩ (.int .u64 (bits .or .u64 (bits .andNot .u64 G.x (IntKind.u64.wrap (2 ^ k))) (IntKind.u64.wrap (2 ^ k)))) = Z := ⟨_, rfl⟩
      have z3 : Z.heap.size = w.heap.size + 1 + 1 := by rw [← hZ, World.size_setCell]; exact z2
      rw [hZ] at P6 P7 B3 ⊢
      clear hZ a6 f6
      have P6' : Hid (GBox Z w.heap.size (fixG G k true)) := Lib.hid (by have := P6.out; rw [E0.out] at this; simpa [fixG, fixX] using this)
      go_wp2_with (first | (go_at_call 61; refine (l01Made_any (fixG G k true) _ _ P6'.out.at' (by omega) (ok_x HG.out hk)).mono ?_; rintro e Y ⟨rfl, hy⟩; unfold GN; have P5 := Lib.hid (P7.out.below hy (by omega))) | (refine wpList_store_mid rfl 32 _ _ rfl _ 0 (Grd (madeG (fixG G k true))) rfl rfl (by rw [Grd_size]; exact P5.out.there) (by rw [Grd_size]; exact infoGround) (Grd_one _) ?_))
      refine bodyPost_ret (ret_GN rfl rfl rfl P5.out.store.range) rfl ⟨by rw [R1.out, R2.out], below_setCells _ (by omega) _ _ _ (B3.out.trans (hy.mono (by omega)))⟩
  · have hne : (askedN G c != 0) = true := by simpa [bne] using ha
    have R1 := Lib.hid (show withG G (fixG G c b) c = zG by simp only [withG, ha, if_false])
    have R2 := Lib.hid (show withN G (fixG G c b) c = askedN G c by simp only [withN, ha, if_false])
    clear ha
    go_wp2_with (first | (go_at_call 60; refine (l01Asked_any G c _ _ G1.out.at' HG.out).mono ?_; rintro e w' ⟨rfl, n, rfl⟩) | (refine wpList_store_mid rfl 32 _ _ rfl _ 0 (Grd zG) rfl rfl (by rw [Grd_size]; exact (q2.out n).there) (by rw [Grd_size]; exact infoGround) (Grd_one _) ?_))
    refine bodyPost_ret (ret_GN rfl rfl rfl (q2.out n).store.range) rfl ⟨by rw [R1.out, R2.out], below_setCells _ (by omega) _ _ _ (HB.out.trans (Quiet.below ⟨n, rfl⟩ _))⟩

set_option maxRecDepth 100000 in
set_option maxHeartbeats 1000000 in
theorem implWithFixed_any (G : Gd) (c : Int) (b : Bool) (w : World) (hG : GdOk G) (l1 : -9223372036854775808 ≤ c) (l2 : c ≤ 9223372036854775807) (hT : TabAt w) :
    Calls Tryd.prog 34 #[.agg (Grd G), .int .i64 c, .bool b] w fun e w' => e = .returned (GN (withG G (fixG G c b) c) (withN G (fixG G c b) c)) ∧ Below w.heap.size w w' := by
  have hz := (zero_of_info zeroGround).1
  go_enter Tryd.func34, Tryd.ntmps34
  go_upto_region 1 with (fail)
  obtain ⟨W, hW, hs, g1, g2, hB⟩ := gbox2 G zG 32 32 w
  rw [hW]
  clear hW
  have G1 := Lib.hid g1
  have G2 := Lib.hid g2
  have HB := Lib.hid hB
  have HG := Lib.hid hG
  have HT := Lib.hid (hT.below hB (tab_lt hT))
  have hT0 := Lib.hid hT
  clear g1 g2 hB hG hT
  by_cases ha : askedN G c = 0
  · obtain ⟨k, rfl, hk, _, _⟩ := asked_in ha
    have R1 := Lib.hid (show withG G (fixG G k b) k = madeG (fixG G k b) by simp only [withG, ha, if_true])
    have R2 := Lib.hid (show withN G (fixG G k b) k = madeN (fixG G k b) by simp only [withN, ha, if_true])
    have Ha := Lib.hid ha
    clear ha
    go_upto_region 4 with (go_at_call 62; have hc := (checkCell_any G k l1 l2 _ _ G1.out.at' (by omega) HG.out HT.out); rw [Ha.out] at hc; refine hc.mono ?_; clear hc; rintro e V ⟨rfl, hv⟩)
    have p1 := G1.out.below hv (by omega)
    have p2 := G2.out.below hv (by omega)
    have z1 := hv.size
    have B1 := Lib.hid (HB.out.trans (hv.mono (by omega)))
    have T1 := Lib.hid (HT.out.below hv (tab_lt HT.out))
    have a5 := p1.at'.x
    rw [Nat.zero_add] at a5
    have f5 := p1.free 194 (by omega)
    clear G1 G2 hv
    have PB : ∀ (y : Int) (U : World), Quiet V U → GBox (U.setCell ⟨w.heap.size, 194, none⟩ (.int .u64 y)) w.heap.size { G with x := y } ∧ GBox (U.setCell ⟨w.heap.size, 194, none⟩ (.int .u64 y)) (w.heap.size + 1) zG ∧ Below w.heap.size w (U.setCell ⟨w.heap.size, 194, none⟩ (.int .u64 y)) ∧ TabAt (U.setCell ⟨w.heap.size, 194, none⟩ (.int .u64 y)) ∧ (U.setCell ⟨w.heap.size, 194, none⟩ (.int .u64 y)).heap.size = V.heap.size := fun y U hU => by
      obtain ⟨n, rfl⟩ := hU
      have hq : Below V.heap.size V (World.drewN V n) := Quiet.below ⟨n, rfl⟩ _
      have hs2 : Below w.heap.size (World.drewN V n) ((World.drewN V n).setCell ⟨w.heap.size, 194, none⟩ (.int .u64 y)) := (Below.refl _ _).setCell (p := ⟨w.heap.size, 194, none⟩) (Nat.le_refl _) _
      exact ⟨(p1.below hq (by omega)).putX, (p2.below hq (by omega)).far (by omega), (B1.out.trans (Quiet.below ⟨n, rfl⟩ _)).trans hs2, (T1.out.below hq (by have := tab_lt hT0.out; omega)).below hs2 (tab_lt hT0.out), by rw [World.size_setCell]; rfl⟩
    have HPB := Lib.hid PB
    clear PB p1 p2
    cases b
    · go_upto_region 6 with (fail)
      have A5 : ∀ w', Quiet V w' → w'.cell? ⟨w.heap.size, 194, none⟩ = some (.int .u64 G.x) := fun w' h => (h.cell _).trans a5
      clear hz
      refine wp_region_calm (ops' := regOf Tryd.f34 6) [0, 1, 2, 3, 4, 5] [6] (.run 6 .fin) (Quiet V) [(0, One (.pointer (some ⟨w.heap.size, 194, none⟩))), (1, One (.int .u64 G.x)), (2, One (.int .i64 k)), (3, One (.int .u64 (IntKind.u64.wrap (2 ^ k)))), (4, One (.int .u64 (bits .andNot .u64 G.x (IntKind.u64.wrap (2 ^ k))))), (5, One (.pointer (some ⟨w.heap.size, 194, none⟩)))] (by kernel_rfl) (by kernel_rfl) (by kernel_rfl) (by kernel_rfl) (by kernel_rfl) (by kernel_rfl) (by kernel_rfl) (by kernel_rfl) rfl ((Quiet.refl _).drewN 1) ?_
      refine calm_pure (some 22) (by kernel_rfl) (by kernel_rfl) (by kernel_rfl) (fun _ => by kernel_rfl) ?_
      refine calm_read (some 23) (by kernel_rfl) (by kernel_rfl) (by kernel_rfl) (fun w' hw' => load_cell (ty := 25) (x := .tmp 22) (b := w.heap.size) (o := 194) (by kernel_rfl) (by kernel_rfl) Tryd.underlying25 rfl (A5 w' hw')) ?_
      refine calm_pure (some 24) (by kernel_rfl) (by kernel_rfl) (by kernel_rfl) (fun _ => by kernel_rfl) ?_
      refine calm_read (some 25) (by kernel_rfl) (by kernel_rfl) (by kernel_rfl) (fun w' _ => shl_op (x := .const (.int .u64 1)) (y := .tmp 24) (t := 2) (by kernel_rfl) (by kernel_rfl) (by kernel_rfl) hk w') ?_
      refine calm_pure (some 26) (by kernel_rfl) (by kernel_rfl) (by kernel_rfl) (fun _ => by kernel_rfl) ?_
      refine calm_pure (some 27) (by kernel_rfl) (by kernel_rfl) (by kernel_rfl) (fun _ => by kernel_rfl) ?_
      refine calm_end fun w' hw' => plan_do none undef (w'.setCell ⟨w.heap.size, 194, none⟩ (.int .u64 (bits .andNot .u64 G.x (IntKind.u64.wrap (2 ^ k))))) (by kernel_rfl) (by kernel_rfl) (by kernel_rfl) (.inr ⟨store_u64 (x := .tmp 27) (y := .tmp 26) (by kernel_rfl) (by kernel_rfl) (by kernel_rfl) infoU64 (A5 w' hw') (by obtain ⟨n, rfl⟩ := hw'; exact f5), rfl⟩) trivial (plan_end (Clean.normal ?_))
      obtain ⟨X, hX⟩ : ∃ X, w'.setCell ⟨w.heap.size, 194, none⟩ (.int .u64 (bits .andNot .u64 G.x (IntKind.u64.wrap (2 ^ k)))) = X := ⟨_, rfl⟩
      obtain ⟨P3, P4, B2, T2, z2⟩ := HPB.out _ w' hw'
      rw [hX] at P3 P4 B2 T2 z2 ⊢
      have P3' : Hid (GBox X w.heap.size (fixG G k false)) := Lib.hid (by simpa [fixG, fixX] using P3)
      have H4 := Lib.hid P4
      have HB2 := Lib.hid B2
      have HT2 := Lib.hid T2
      have r3 := P3'.out.range
      clear hX P3 P4 B2 T2 A5 a5 f5
      simp only [Act.put, List.setIfInBounds_toArray, List.set_cons_zero, List.set_cons_succ]
      go_wp2_with (first | (refine wpList_load_mid rfl 32 _ rfl w.heap.size 0 rfl (GrdL (fixG G k false)) _ r3 Tryd.underlying32 rfl (by rw [GrdL_length]; exact infoGround) ?_) | (go_at_call 63; refine (ifValid_any (fixG G k false) _ (ok_x HG.out hk) HT2.out).mono ?_; rintro e Y ⟨rfl, hy⟩; unfold GN; have P5 := Lib.hid (H4.out.below hy (by omega))) | (refine wpList_store_mid rfl 32 _ _ rfl _ 0 (Grd (madeG (fixG G k false))) rfl rfl (by rw [Grd_size]; exact P5.out.there) (by rw [Grd_size]; exact infoGround) (Grd_one _) ?_))
      refine bodyPost_ret (ret_GN rfl rfl rfl P5.out.store.range) rfl ⟨by rw [R1.out, R2.out], below_setCells _ (by omega) _ _ _ (HB2.out.trans (hy.mono (by omega)))⟩
    · go_upto_region 5 with (fail)
      have A5 : ∀ w', Quiet V w' → w'.cell? ⟨w.heap.size, 194, none⟩ = some (.int .u64 G.x) := fun w' h => (h.cell _).trans a5
      clear hz
      refine wp_region_calm (ops' := regOf Tryd.f34 5) [0, 1, 2, 3, 4, 5] [6] (.run 6 .fin) (Quiet V) [(0, One (.pointer (some ⟨w.heap.size, 194, none⟩))), (1, One (.int .u64 G.x)), (2, One (.int .i64 k)), (3, One (.int .u64 (IntKind.u64.wrap (2 ^ k)))), (4, One (.int .u64 (bits .or .u64 G.x (IntKind.u64.wrap (2 ^ k))))), (5, One (.pointer (some ⟨w.heap.size, 194, none⟩)))] (by kernel_rfl) (by kernel_rfl) (by kernel_rfl) (by kernel_rfl) (by kernel_rfl) (by kernel_rfl) (by kernel_rfl) (by kernel_rfl) rfl ((Quiet.refl _).drewN 1) ?_
      refine calm_pure (some 16) (by kernel_rfl) (by kernel_rfl) (by kernel_rfl) (fun _ => by kernel_rfl) ?_
      refine calm_read (some 17) (by kernel_rfl) (by kernel_rfl) (by kernel_rfl) (fun w' hw' => load_cell (ty := 25) (x := .tmp 16) (b := w.heap.size) (o := 194) (by kernel_rfl) (by kernel_rfl) Tryd.underlying25 rfl (A5 w' hw')) ?_
      refine calm_pure (some 18) (by kernel_rfl) (by kernel_rfl) (by kernel_rfl) (fun _ => by kernel_rfl) ?_
      refine calm_read (some 19) (by kernel_rfl) (by kernel_rfl) (by kernel_rfl) (fun w' _ => shl_op (x := .const (.int .u64 1)) (y := .tmp 18) (t := 2) (by kernel_rfl) (by kernel_rfl) (by kernel_rfl) hk w') ?_
      refine calm_pure (some 20) (by kernel_rfl) (by kernel_rfl) (by kernel_rfl) (fun _ => by kernel_rfl) ?_
      refine calm_pure (some 21) (by kernel_rfl) (by kernel_rfl) (by kernel_rfl) (fun _ => by kernel_rfl) ?_
      refine calm_end fun w' hw' => plan_do none undef (w'.setCell ⟨w.heap.size, 194, none⟩ (.int .u64 (bits .or .u64 G.x (IntKind.u64.wrap (2 ^ k))))) (by kernel_rfl) (by kernel_rfl) (by kernel_rfl) (.inr ⟨store_u64 (x := .tmp 21) (y := .tmp 20) (by kernel_rfl) (by kernel_rfl) (by kernel_rfl) infoU64 (A5 w' hw') (by obtain ⟨n, rfl⟩ := hw'; exact f5), rfl⟩) trivial (plan_end (Clean.normal ?_))
      obtain ⟨X, hX⟩ : ∃ X, w'.setCell ⟨w.heap.size, 194, none⟩ (.int .u64 (bits .or .u64 G.x (IntKind.u64.wrap (2 ^ k)))) = X := ⟨_, rfl⟩
      obtain ⟨P3, P4, B2, T2, z2⟩ := HPB.out _ w' hw'
      rw [hX] at P3 P4 B2 T2 z2 ⊢
      have P3' : Hid (GBox X w.heap.size (fixG G k true)) := Lib.hid (by simpa [fixG, fixX] using P3)
      have H4 := Lib.hid P4
      have HB2 := Lib.hid B2
      have HT2 := Lib.hid T2
      have r3 := P3'.out.range
      clear hX P3 P4 B2 T2 A5 a5 f5
      simp only [Act.put, List.setIfInBounds_toArray, List.set_cons_zero, List.set_cons_succ]
      go_wp2_with (first | (refine wpList_load_mid rfl 32 _ rfl w.heap.size 0 rfl (GrdL (fixG G k true)) _ r3 Tryd.underlying32 rfl (by rw [GrdL_length]; exact infoGround) ?_) | (go_at_call 63; refine (ifValid_any (fixG G k true) _ (ok_x HG.out hk) HT2.out).mono ?_; rintro e Y ⟨rfl, hy⟩; unfold GN; have P5 := Lib.hid (H4.out.below hy (by omega))) | (refine wpList_store_mid rfl 32 _ _ rfl _ 0 (Grd (madeG (fixG G k true))) rfl rfl (by rw [Grd_size]; exact P5.out.there) (by rw [Grd_size]; exact infoGround) (Grd_one _) ?_))
      refine bodyPost_ret (ret_GN rfl rfl rfl P5.out.store.range) rfl ⟨by rw [R1.out, R2.out], below_setCells _ (by omega) _ _ _ (HB2.out.trans (hy.mono (by omega)))⟩
  · have hne : (askedN G c != 0) = true := by simpa [bne] using ha
    have R1 := Lib.hid (show withG G (fixG G c b) c = zG by simp only [withG, ha, if_false])
    have R2 := Lib.hid (show withN G (fixG G c b) c = askedN G c by simp only [withN, ha, if_false])
    clear ha
    go_wp2_with (first | (go_at_call 62; refine (checkCell_any G c l1 l2 _ _ G1.out.at' (by omega) HG.out HT.out).mono ?_; rintro e V ⟨rfl, hv⟩; have P2 := Lib.hid (G2.out.below hv (by omega))) | (refine wpList_store_mid rfl 32 _ _ rfl _ 0 (Grd zG) rfl rfl (by rw [Grd_size]; exact P2.out.there) (by rw [Grd_size]; exact infoGround) (Grd_one _) ?_))
    refine bodyPost_ret (ret_GN rfl rfl rfl P2.out.store.range) rfl ⟨by rw [R1.out, R2.out], below_setCells _ (by omega) _ _ _ (HB.out.trans (hv.mono (by omega)))⟩
end

section
open Go.RowKit
attribute [local go_sem] run_store_float
set_option linter.unusedSimpArgs false

/-- The mirrored number of a cell. -/
def mir (G : Gd) (i : Nat) : Nat := i - i % 8 + (G.wide.toNat - 1 - i % 8)

/-- A bit of a mask, moved. -/
def mvX (G : Gd) (x : Nat) (i : Nat) : Nat := if G.x.toNat.testBit i = true then x ||| 2 ^ mir G i else x
/-- One cell is mirrored. -/
def mirS (G : Gd) (H : Gd) (i : Nat) : Gd := { H with c := upd H.c (mir G i) (G.c i), g := upd H.g (mir G i) (G.g i), h := upd H.h (mir G i) (G.h i), x := (mvX G H.x.toNat i : Nat) }
def mirL (G : Gd) (l : List Nat) : Gd := l.foldl (mirS G) { G with x := 0 }
theorem mirS_eq {G H : Gd} {k j : Nat} {V : Int} (hj : mir G k = j) (hV : V = ((mvX G H.x.toNat k : Nat) : Int)) : mirS G H k = { H with c := upd H.c j (G.c k), g := upd H.g j (G.g k), h := upd H.h j (G.h k), x := V } := by
  subst hj
  subst hV
  rfl
theorem mirL_snoc (G : Gd) (l : List Nat) (i : Nat) : mirL G (l ++ [i]) = mirS G (mirL G l) i := by simp [mirL]

theorem mir_lt {G : Gd} {i : Nat} (hv : validB G = true) (hi : i < 64) (hb : isB G i = true) : mir G i < 64 ∧ mir G i = i - i % 8 + (G.wide.toNat - 1 - i % 8) ∧ i % 8 < G.wide.toNat ∧ i - i % 8 + 8 ≤ 64 := by
  obtain ⟨v1, v2, v3, v4⟩ := valid_ext hv
  simp only [isB, Bool.and_eq_true, decide_eq_true_eq] at hb
  unfold mir
  omega

/-- The list of the cells, in order. -/
def cellL (G : Gd) : List Nat := (List.range 64).filter (isB G)
theorem cellL_bits (G : Gd) : bitsL (cellsN G) = cellL G := by
  unfold bitsL cellL
  refine List.filter_congr fun i hi => ?_
  rw [cellsN_testBit]
  simp at hi
  simp [hi]
/-- The first of them. -/
def cellTo (G : Gd) (k : Nat) : List Nat := (List.range k).filter (isB G)
theorem cellTo_succ (G : Gd) (k : Nat) : cellTo G (k + 1) = if isB G k = true then cellTo G k ++ [k] else cellTo G k := by
  unfold cellTo
  rw [List.range_succ, List.filter_append]
  cases h : isB G k <;> simp [h]

def mirG (G : Gd) : Gd := if validB G = true then mirL G (cellL G) else zG
def mirN (G : Gd) : Int := if validB G = true then 0 else 1

/-- Of one bit of a mask, moved, as the model computes it. -/
theorem mv_val (X x i j : Nat) (hX : X < 18446744073709551616) (hj : j < 64) :
    bits .or .u64 (X : Int) (IntKind.u64.wrap (((x : Int) / 2 ^ i).tmod 2 * 2 ^ j)) = (((if x.testBit i = true then X ||| 2 ^ j else X) : Nat) : Int) := by
  have e1 : ((x : Int) / 2 ^ i).tmod 2 = ((x / 2 ^ i % 2 : Nat) : Int) := by
    rw [Int.tmod_eq_emod_of_nonneg (Int.ediv_nonneg (by omega) (by have := Int.pow_pos (n := 2) (m := i) (by omega); omega))]
    simp
  have e2 : x / 2 ^ i % 2 = (x.testBit i).toNat := by
    rw [Nat.testBit_eq_decide_div_mod_eq]
    have : x / 2 ^ i % 2 = 0 ∨ x / 2 ^ i % 2 = 1 := by omega
    rcases this with h | h <;> simp [h]
  rw [e1, e2]
  cases x.testBit i
  · have : IntKind.u64.wrap (((false.toNat : Nat) : Int) * 2 ^ j) = ((0 : Nat) : Int) := by simp [IntKind.wrap_u64]
    rw [this, bits_or_u64_nat X 0 hX (by omega)]
    simp
  · have : IntKind.u64.wrap (((true.toNat : Nat) : Int) * 2 ^ j) = ((2 ^ j : Nat) : Int) := by
      rw [← wrap_pow j hj]; simp
    rw [this, bits_or_u64_nat X _ hX (by have : 2 ^ j < 2 ^ 64 := Nat.pow_lt_pow_right (by decide) hj; simpa using this)]
    simp

/-- Masks stay within their kind. -/
theorem mirL_x (G : Gd) (hv : validB G = true) : ∀ (l : List Nat), (∀ i ∈ l, i < 64 ∧ isB G i = true) → ∃ n : Nat, (mirL G l).x = n ∧ n < 18446744073709551616 := by
  intro l
  rw [← List.reverse_reverse l]
  induction l.reverse with
  | nil => intro _; exact ⟨0, rfl, by omega⟩
  | cons i r ih =>
    intro h
    rw [List.reverse_cons] at h ⊢
    obtain ⟨n, h1, h2⟩ := ih (fun j hj => h j (by simp at hj ⊢; exact .inl hj))
    obtain ⟨m1, _⟩ := mir_lt hv (h i (by simp)).1 (h i (by simp)).2
    rw [mirL_snoc]
    refine ⟨mvX G (mirL G r.reverse).x.toNat i, rfl, ?_⟩
    rw [h1, Int.toNat_natCast]
    unfold mvX
    split
    · have : n ||| 2 ^ mir G i < 2 ^ 64 := Nat.or_lt_two_pow (by simpa using h2) (Nat.pow_lt_pow_right (by decide) m1)
      simpa using this
    · exact h2

theorem cellTo_ok (G : Gd) (k : Nat) (hk : k ≤ 64) : ∀ i ∈ cellTo G k, i < 64 ∧ isB G i = true := fun i hi => by
  simp only [cellTo, List.mem_filter, List.mem_range] at hi
  exact ⟨by omega, hi.2⟩
/-- The mask of a round. -/
theorem mv_ground (G : Gd) (k j : Nat) (hv : validB G = true) (hk : k < 64) (hj : mir G k = j) (hj2 : j < 64) (hG : GdOk G) :
    bits .or .u64 (mirL G (cellTo G k)).x (IntKind.u64.wrap ((G.x / 2 ^ k).tmod 2 * 2 ^ j)) = ((mvX G (mirL G (cellTo G k)).x.toNat k : Nat) : Int) := by
  obtain ⟨n, h1, h2⟩ := mirL_x G hv _ (cellTo_ok G k (by omega))
  have hx := hG.x'
  obtain ⟨x, h3⟩ : ∃ x : Nat, G.x = x := ⟨G.x.toNat, by omega⟩
  rw [h1, h3, mv_val n x k j h2 hj2, Int.toNat_natCast]
  unfold mvX
  rw [h3, hj, Int.toNat_natCast]

set_option maxRecDepth 100000 in
set_option maxHeartbeats 2000000 in
theorem specMirror_any (G : Gd) (w : World) (hG : GdOk G) :
    Calls Tryd.prog 35 #[.agg (Grd G)] w fun e w' => e = .returned (GN (mirG G) (mirN G)) ∧ Below w.heap.size w w' := by
  have hz := (zero_of_info zeroGround).1
  go_enter Tryd.func35, Tryd.ntmps35
  go_upto_region 1 with (fail)
  obtain ⟨W, hW, hs, g1, g2, hB⟩ := gbox2 G zG 32 32 w
  rw [hW]
  clear hW
  have G1 := Lib.hid g1
  have HB := Lib.hid hB
  have HG := Lib.hid hG
  have Hs := Lib.hid hs
  have q2 := Lib.hid (fun n => (g2.below (Quiet.below ⟨n, rfl⟩ (w.heap.size + 1 + 1)) (by omega) : GBox (World.drewN W n) (w.heap.size + 1) zG))
  have q1 := Lib.hid (fun n => (g1.below (Quiet.below ⟨n, rfl⟩ (w.heap.size + 1)) (by omega) : GBox (World.drewN W n) w.heap.size G))
  clear g1 g2 hB hG hs
  cases hv : validB G
  · have Hv := Lib.hid hv
    have R1 := Lib.hid (show mirG G = zG by simp [mirG, hv])
    have R2 := Lib.hid (show mirN G = 1 by simp [mirN, hv])
    clear hv
    go_wp2_with (first | (go_at_call 47; have hc := (l01Ok_any G _ _ G1.out.at' HG.out); rw [Hv.out] at hc; refine hc.mono ?_; clear hc; rintro e w' ⟨rfl, n, rfl⟩) | (refine wpList_store_mid rfl 32 _ _ rfl _ 0 (Grd zG) rfl rfl (by rw [Grd_size]; exact (q2.out n).there) (by rw [Grd_size]; exact infoGround) (Grd_one _) ?_))
    refine bodyPost_ret (ret_GN rfl rfl rfl (q2.out n).store.range) rfl ⟨by rw [R1.out, R2.out], below_setCells _ (by omega) _ _ _ (HB.out.trans (Quiet.below ⟨n, rfl⟩ _))⟩
  · have Hv := Lib.hid hv
    have R1 := Lib.hid (show mirG G = mirL G (cellL G) by simp [mirG, hv])
    have R2 := Lib.hid (show mirN G = 0 by simp [mirN, hv])
    clear hv
    go_upto_region 3 with (go_at_call 47; have hc := (l01Ok_any G _ _ G1.out.at' HG.out); rw [Hv.out] at hc; refine hc.mono ?_; clear hc; rintro e w' ⟨rfl, n, rfl⟩)
    obtain ⟨V, hV⟩ : ∃ V, World.drewN W n = V := ⟨_, rfl⟩
    have p1 := q1.out n
    have p2 := q2.out n
    have B1 := Lib.hid (HB.out.trans (Quiet.below ⟨n, rfl⟩ _ : Below w.heap.size W (World.drewN W n)))
    have z1 : V.heap.size = w.heap.size + 1 + 1 := by rw [← hV]; exact Hs.out
    rw [hV] at p1 p2 B1 ⊢
    clear hV q1 q2 G1
    have r1 := p1.range
    have P1 := Lib.hid p1
    have P2 := Lib.hid p2
    have Z1 := Lib.hid z1
    clear p1 p2 z1
    go_upto_region 4 with (first | (refine wpList_load_mid rfl 32 _ rfl w.heap.size 0 rfl (GrdL G) _ r1 Tryd.underlying32 rfl (by rw [GrdL_length]; exact infoGround) ?_) | (refine wpList_store_mid rfl 32 _ _ rfl _ 0 (Grd G) rfl rfl (by rw [Grd_size]; exact new_there _ V) (by rw [Grd_size]; exact infoGround) (Grd_one _) ?_; obtain ⟨X, hX, zX, gX, bX⟩ := stored_box G 32 V; rw [hX]; have hx : V.heap.size < X.heap.size := (by omega); clear hX zX))
    have z1 := Z1.out
    rw [z1]
    have gX' : GBox X (w.heap.size + 1 + 1) G := by rw [← z1]; exact gX
    have hx' : w.heap.size + 1 + 1 < X.heap.size := by omega
    clear z1 hx Z1
    have z1' : w.heap.size < V.heap.size := by have := P1.out.lt; exact this
    have z2' : w.heap.size + 1 < V.heap.size := by have := P2.out.lt; exact this
    have PX := Lib.hid (gX'.putX (x := 0))
    have PXs := Lib.hid ((P1.out.below bX (by omega)).far (b' := w.heap.size + 1 + 1) (k := 194) (v := .int .u64 0) (by omega))
    have PXr := Lib.hid ((P2.out.below bX (by omega)).far (b' := w.heap.size + 1 + 1) (k := 194) (v := .int .u64 0) (by omega))
    have BX := Lib.hid ((B1.out.trans (bX.mono (by omega))).setCell (p := ⟨w.heap.size + 1 + 1, 194, none⟩) (by simp; omega) (.int .u64 0))
    have b0 := gX'.at_some 194 (by omega)
    obtain ⟨u, hu⟩ := Option.isSome_iff_exists.1 b0
    have f0 := gX'.free 194 (by omega)
    clear b0 gX gX' bX r1 hz P1 P2 B1
    go_upto_region 5 with (fail)
    obtain ⟨Y, hY⟩ : ∃ Y, X.setCell ⟨w.heap.size + 1 + 1, 194, none⟩ (.int .u64 0) = Y := ⟨_, rfl⟩
    have zY : w.heap.size + 1 + 1 < Y.heap.size := by rw [← hY, World.size_setCell]; omega
    rw [hY] at PX PXs PXr BX ⊢
    clear hY hu f0 u
    go_wp2
    go_loopw [5, 6] (fun i _ wr => ∃ k : Nat, k ≤ 64 ∧ i = .int .i64 k ∧ Hid (GBox wr (w.heap.size + 1 + 1) (mirL G (cellTo G k))) ∧ Hid (GBox wr w.heap.size G) ∧ Hid (GBox wr (w.heap.size + 1) zG) ∧ Hid (Below w.heap.size w wr)) (fun i _ _ => 64 - (intOf i).toNat)
    case atStart => exact ⟨0, by omega, rfl, PX, PXs, PXr, BX⟩
    case round =>
      clear PX PXs PXr BX
      obtain ⟨k, hk, rfl, Q0, Q0s, Q0r, D0⟩ := hrel
      by_cases hlt : k < 64
      · cases hi : isB G k
        · have Hi := Lib.hid hi
          have E := Lib.hid (show cellTo G (k + 1) = cellTo G k by rw [cellTo_succ, hi]; simp)
          clear hi
          go_wp2_with (go_at_call 64; refine (l01Is_is G k hlt false Hi.out _ _ Q0s.out.at' HG.out).mono ?_; rintro e w' ⟨rfl, rfl⟩)
          go_roundw
          case rel => exact ⟨k + 1, by omega, by go_num, by rw [E.out]; exact Q0, Q0s, Q0r, D0⟩
          case measure => simp [intOf]; omega
        · have Hi := Lib.hid hi
          have E := Lib.hid (show cellTo G (k + 1) = cellTo G k ++ [k] by rw [cellTo_succ, hi]; simp)
          obtain ⟨hm, hmE, hm2, hm3⟩ := mir_lt Hv.out hlt hi
          obtain ⟨v1, v2, v3, v4⟩ := valid_ext Hv.out
          have key : (k : Int) - (k : Int) % 8 + G.wide - 1 - (k : Int) % 8 = ((mir G k : Nat) : Int) := by omega
          obtain ⟨j, hj⟩ : ∃ j, mir G k = j := ⟨_, rfl⟩
          rw [hj] at hm key
          have Key := Lib.hid key
          have HJ := Lib.hid hj
          have aw := Q0s.out.at'.wide
          clear hi key hmE hj hm2 hm3
          go_upto_region 10 with (go_at_call 64; refine (l01Is_is G k hlt true Hi.out _ _ Q0s.out.at' HG.out).mono ?_; rintro e w' ⟨rfl, rfl⟩)
          rw [Key.out]
          clear aw
          have b0 := Q0.out.at_some (2 + j) (by omega)
          obtain ⟨u, hu⟩ := Option.isSome_iff_exists.1 b0
          have f0 := Q0.out.free (2 + j) (by omega)
          have Qa := Lib.hid (Q0.out.putC hm (x := G.c k))
          have Qas := Lib.hid (Q0s.out.far (b' := w.heap.size + 1 + 1) (k := 2 + j) (v := .float .f32 (G.c k)) (by omega))
          have Qar := Lib.hid (Q0r.out.far (b' := w.heap.size + 1 + 1) (k := 2 + j) (v := .float .f32 (G.c k)) (by omega))
          have Da := Lib.hid (D0.out.setCell (p := ⟨w.heap.size + 1 + 1, 2 + j, none⟩) (by simp; omega) (.float .f32 (G.c k)))
          have s0 := Grd_fld Q0s.out.at'.c k hlt
          rw [Nat.zero_add] at s0
          clear b0
          go_upto_region 11 with (fail)
          obtain ⟨Wa, hW⟩ : ∃ W', World.setCell w' ⟨w.heap.size + 1 + 1, 2 + j, none⟩ (.float .f32 (G.c k)) = W' := ⟨_, rfl⟩
          rw [hW] at Qa Qas Qar Da ⊢
          clear hW hu f0 s0 Q0 Q0s Q0r D0 u
          have b0 := Qa.out.at_some (66 + j) (by omega)
          obtain ⟨u, hu⟩ := Option.isSome_iff_exists.1 b0
          have f0 := Qa.out.free (66 + j) (by omega)
          have Qb := Lib.hid (Qa.out.putG hm (x := G.g k))
          have Qbs := Lib.hid (Qas.out.far (b' := w.heap.size + 1 + 1) (k := 66 + j) (v := .float .f32 (G.g k)) (by omega))
          have Qbr := Lib.hid (Qar.out.far (b' := w.heap.size + 1 + 1) (k := 66 + j) (v := .float .f32 (G.g k)) (by omega))
          have Db := Lib.hid (Da.out.setCell (p := ⟨w.heap.size + 1 + 1, 66 + j, none⟩) (by simp; omega) (.float .f32 (G.g k)))
          have s0 := Grd_fld Qas.out.at'.g k hlt
          rw [Nat.zero_add] at s0
          clear b0
          go_upto_region 12 with (fail)
          obtain ⟨Wb, hW⟩ : ∃ W', World.setCell Wa ⟨w.heap.size + 1 + 1, 66 + j, none⟩ (.float .f32 (G.g k)) = W' := ⟨_, rfl⟩
          rw [hW] at Qb Qbs Qbr Db ⊢
          clear hW hu f0 s0 Qa Qas Qar Da u
          have b0 := Qb.out.at_some (130 + j) (by omega)
          obtain ⟨u, hu⟩ := Option.isSome_iff_exists.1 b0
          have f0 := Qb.out.free (130 + j) (by omega)
          have Qc := Lib.hid (Qb.out.putH hm (x := G.h k))
          have Qcs := Lib.hid (Qbs.out.far (b' := w.heap.size + 1 + 1) (k := 130 + j) (v := .float .f32 (G.h k)) (by omega))
          have Qcr := Lib.hid (Qbr.out.far (b' := w.heap.size + 1 + 1) (k := 130 + j) (v := .float .f32 (G.h k)) (by omega))
          have Dc := Lib.hid (Db.out.setCell (p := ⟨w.heap.size + 1 + 1, 130 + j, none⟩) (by simp; omega) (.float .f32 (G.h k)))
          have s0 := Grd_fld Qbs.out.at'.h k hlt
          rw [Nat.zero_add] at s0
          clear b0
          go_upto_region 13 with (fail)
          obtain ⟨Wc, hW⟩ : ∃ W', World.setCell Wb ⟨w.heap.size + 1 + 1, 130 + j, none⟩ (.float .f32 (G.h k)) = W' := ⟨_, rfl⟩
          rw [hW] at Qc Qcs Qcr Dc ⊢
          clear hW hu f0 s0 Qb Qbs Qbr Db u
          have ax := Qc.out.at'.x
          have bx := Qcs.out.at'.x
          rw [Nat.zero_add] at ax bx
          have fx := Qc.out.free 194 (by omega)
          have xx := HG.out.x'
          have EV := Lib.hid (mv_ground G k j Hv.out hlt HJ.out (by have := hm; exact this) HG.out)
          have Qd := Lib.hid (Qc.out.putX (x := bits .or .u64 (mirL G (cellTo G k)).x (IntKind.u64.wrap ((G.x / 2 ^ k).tmod 2 * 2 ^ j))))
          have Qds := Lib.hid (Qcs.out.far (b' := w.heap.size + 1 + 1) (k := 194) (v := .int .u64 (bits .or .u64 (mirL G (cellTo G k)).x (IntKind.u64.wrap ((G.x / 2 ^ k).tmod 2 * 2 ^ j)))) (by omega))
          have Qdr := Lib.hid (Qcr.out.far (b' := w.heap.size + 1 + 1) (k := 194) (v := .int .u64 (bits .or .u64 (mirL G (cellTo G k)).x (IntKind.u64.wrap ((G.x / 2 ^ k).tmod 2 * 2 ^ j)))) (by omega))
          have Dd := Lib.hid (Dc.out.setCell (p := ⟨w.heap.size + 1 + 1, 194, none⟩) (by simp; omega) (.int .u64 (bits .or .u64 (mirL G (cellTo G k)).x (IntKind.u64.wrap ((G.x / 2 ^ k).tmod 2 * 2 ^ j)))))
          clear Qc Qcs Qcr Dc xx
          go_wp2
          go_roundw
          case rel => exact ⟨k + 1, by omega, by go_num, (by rw [E.out, mirL_snoc, mirS_eq HJ.out EV.out]; exact Qd), Qds, Qdr, Dd⟩
          case measure => simp [intOf]; omega
      · obtain rfl : k = 64 := by omega
        have rr := Q0.out.range
        go_wp2_with (first | (refine wpList_load_mid rfl 32 _ rfl (w.heap.size + 1 + 1) 0 rfl (GrdL (mirL G (cellTo G 64))) _ rr Tryd.underlying32 rfl (by rw [GrdL_length]; exact infoGround) ?_) | (refine wpList_store_mid rfl 32 _ _ rfl _ 0 (Grd (mirL G (cellTo G 64))) rfl rfl (by rw [Grd_size]; exact Q0r.out.there) (by rw [Grd_size]; exact infoGround) (Grd_one _) ?_))
        refine bodyPost_ret (ret_GN rfl rfl rfl Q0r.out.store.range) rfl ⟨by rw [R1.out, R2.out]; rfl, below_setCells _ (by omega) _ _ _ D0.out⟩
end

section
open Go.RowKit Go.Shelf
attribute [local go_sem] Oper.semAt_some run_store_float
set_option linter.unusedSimpArgs false

theorem KeepsOthers.of_below' {W W' : World} (h : Below W.heap.size W W') : KeepsOthers W W' := ⟨h.size, fun k _ hk _ => (h.block k (Array.getElem?_eq_some_iff.1 hk).1).trans hk⟩

theorem mirS_no {G H : Gd} {k j n : Nat} (hj : mir G k = j) (hb : G.x.toNat.testBit k = false) (hn : H.x = (n : Int)) : mirS G H k = { H with c := upd H.c j (G.c k), g := upd H.g j (G.g k), h := upd H.h j (G.h k) } := by
  subst hj
  have e : ((H.x.toNat : Nat) : Int) = H.x := by rw [hn, Int.toNat_natCast]
  unfold mirS mvX
  rw [if_neg (by simp [hb]), e]
theorem mv_yes {G H : Gd} {k j n : Nat} (hj : mir G k = j) (hb : G.x.toNat.testBit k = true) (hn : H.x = (n : Int)) (h1 : n < 18446744073709551616) (h2 : j < 64) : bits .or .u64 H.x (IntKind.u64.wrap (2 ^ j)) = ((mvX G H.x.toNat k : Nat) : Int) := by
  rw [hn, or_bit n j h1 h2, Int.toNat_natCast]
  unfold mvX
  rw [if_pos hb, hj]

/-- A bit of a mask, as a test. -/
theorem bit_test (x k : Nat) (hx : x < 18446744073709551616) : (bits .and .u64 ((x : Int) / 2 ^ k) 1 == 1) = x.testBit k := by
  have e : (x : Int) / 2 ^ k = ((x / 2 ^ k : Nat) : Int) := by simp
  have h1 : x / 2 ^ k < 18446744073709551616 := Nat.lt_of_le_of_lt (Nat.div_le_self _ _) hx
  rw [e, show (1 : Int) = ((1 : Nat) : Int) from rfl, bits_and_u64_nat _ 1 h1 (by omega), Nat.and_one_is_mod, Nat.testBit_eq_decide_div_mod_eq]
  have : x / 2 ^ k % 2 = 0 ∨ x / 2 ^ k % 2 = 1 := by omega
  rcases this with h | h <;> simp [h]

theorem isFixed_any (G : Gd) (k : Nat) (hk : k < 64) (p : Nat) (w : World) (hp : GrdAt w p 0 G) (hG : GdOk G) :
    Calls Tryd.prog 66 #[.pointer (some ⟨p, 0, none⟩), .int .i64 k] w fun e w' => e = .returned (.bool (G.x.toNat.testBit k)) ∧ w = w' := by
  have xx := hG.x'
  obtain ⟨x, hx⟩ : ∃ x : Nat, G.x = x := ⟨G.x.toNat, by omega⟩
  have hb := Lib.hid (bit_test x k (by omega))
  have a0 := hp.x
  rw [Nat.zero_add, hx] at a0
  rw [hx, Int.toNat_natCast]
  clear hp hG
  go_enter Tryd.func66, Tryd.ntmps66
  go_wp2
  go_ret
  exact ⟨ret_bool hb.out, rfl⟩

set_option maxRecDepth 100000 in
set_option maxHeartbeats 4000000 in
theorem implMirror_valid (G : Gd) (w : World) (hG : GdOk G) (hT : TabAt w) (hv : validB G = true) :
    Calls Tryd.prog 36 #[.agg (Grd G)] w fun e w' => e = .returned (GN (mirL G (cellL G)) 0) ∧ Below w.heap.size w w' := by
  have hz := (zero_of_info zeroGround).1
  refine (callsIn_wide (n := 6)).1 (callsIn_of_wp_marks Tryd.func36 rfl trivial ?_ rfl)
  simp only [Tryd.ntmps36, List.size_toArray, List.length_cons, List.length_nil, Nat.reduceAdd, Nat.reduceSub, Array.replicate_succ, Array.replicate_zero, List.push_toArray, List.append_toArray, List.nil_append, List.cons_append]
  refine wpIn_wide.2 ?_
  go_upto_region 1 with (fail)
  obtain ⟨W, hW, hs, g1, g2, hB⟩ := gbox2 G zG 32 32 w
  rw [hW]
  clear hW
  have r1 := g1.range
  have G1 := Lib.hid g1
  have G2 := Lib.hid g2
  have HB := Lib.hid hB
  have HG := Lib.hid hG
  have HT := Lib.hid (hT.below hB (tab_lt hT))
  have Hv := Lib.hid hv
  have glt := tab_lt hT
  clear g1 g2 hB hG hT hv
  go_upto_region 3 with (first | (refine wpList_load_mid rfl 32 _ rfl w.heap.size 0 rfl (GrdL G) _ r1 Tryd.underlying32 rfl (by rw [GrdL_length]; exact infoGround) ?_) | (go_at_call 49; have hc := (validGround_any G W HG.out HT.out (tab_lt HT.out)); rw [Hv.out] at hc; refine hc.mono ?_; clear hc; rintro e V ⟨rfl, hb1⟩))
  have z1 := hb1.size
  have P1 := Lib.hid (G1.out.below hb1 (by omega))
  have P2 := Lib.hid (G2.out.below hb1 (by omega))
  have B1 := Lib.hid (HB.out.trans (hb1.mono (by omega)))
  have T1 := Lib.hid (HT.out.below hb1 (tab_lt HT.out))
  have r2 := P1.out.range
  clear r1 hb1 G1 G2 HB HT
  go_upto_region 4 with (first | (refine wpList_load_mid rfl 32 _ rfl w.heap.size 0 rfl (GrdL G) _ r2 Tryd.underlying32 rfl (by rw [GrdL_length]; exact infoGround) ?_) | (refine wpList_store_mid rfl 32 _ _ rfl _ 0 (Grd G) rfl rfl (by rw [Grd_size]; exact new_there _ V) (by rw [Grd_size]; exact infoGround) (Grd_one _) ?_; obtain ⟨X, hX, zX, gX, bX⟩ := stored_box G 32 V; rw [hX]; have hx : V.heap.size < X.heap.size := (by omega); clear hX zX))
  obtain ⟨N, hN⟩ : ∃ N, V.heap.size = N := ⟨_, rfl⟩
  rw [hN] at gX bX hx z1 ⊢
  have PX := Lib.hid (gX.putX (x := 0))
  have PXs := Lib.hid ((P1.out.below (hN ▸ bX) (by rw [hN]; omega)).far (b' := N) (k := 194) (v := .int .u64 0) (by omega))
  have PXr := Lib.hid ((P2.out.below (hN ▸ bX) (by rw [hN]; omega)).far (b' := N) (k := 194) (v := .int .u64 0) (by omega))
  have BX := Lib.hid ((B1.out.trans ((hN ▸ bX : Below V.heap.size V X).mono (by rw [hN]; omega))).setCell (p := ⟨N, 194, none⟩) (by simp; omega) (.int .u64 0))
  have TX := Lib.hid ((T1.out.below (hN ▸ bX : Below V.heap.size V X) (tab_lt T1.out)).below ((Below.refl N _).setCell (p := ⟨N, 194, none⟩) (Nat.le_refl _) (.int .u64 0)) (by have := tab_lt T1.out; omega))
  have b0 := gX.at_some 194 (by omega)
  obtain ⟨u, hu⟩ := Option.isSome_iff_exists.1 b0
  have f0 := gX.free 194 (by omega)
  clear b0 gX bX r2 hz P1 P2 B1 T1
  go_upto_region 5 with (fail)
  obtain ⟨Y, hY⟩ : ∃ Y, X.setCell ⟨N, 194, none⟩ (.int .u64 0) = Y := ⟨_, rfl⟩
  have zY : N < Y.heap.size := by rw [← hY, World.size_setCell]; omega
  rw [hY] at PX PXs PXr BX TX ⊢
  clear hY hu f0 u hx hN
  have m64 := cellsN_lt G
  go_wp2_with (first | (go_at_call 57; refine (cells_valid G Hv.out _ _ PXs.out.at').mono ?_; rintro e w' ⟨rfl, rfl⟩) | (go_at_call 59; refine (bitsIn_any (cellsN G) _).mono ?_; rintro e w' ⟨rfl, rfl⟩))
  obtain ⟨X, hX⟩ : ∃ X, Y.alloc (.cells #[.int .u64 (cellsN G)] 25) = X := ⟨_, rfl⟩
  have hbX : Below Y.heap.size Y X := by rw [← hX]; exact (Below.refl _ _).alloc (Nat.le_refl _) _
  have cM : X.cell? ⟨Y.heap.size, 0, none⟩ = some (.int .u64 (cellsN G)) := by rw [← hX]; exact cell_of_row _ _ 0 _ _ _ (heap_alloc_last Y _)
  have zX : Y.heap.size < X.heap.size := by rw [← hX]; simp
  have Q0 := Lib.hid (PX.out.below hbX zY)
  have Q0s := Lib.hid (PXs.out.below hbX (by omega))
  have Q0r := Lib.hid (PXr.out.below hbX (by omega))
  have D0 := Lib.hid (BX.out.trans (hbX.mono (by omega)))
  have TX0 := TX.out.below hbX (tab_lt TX.out)
  rw [hX]
  clear hX hbX PX PXs PXr BX TX
  refine (wpIn_wide (n := 6)).1 (wp_bits 15 16 5 Y.heap.size N (cellsN G) m64 rfl cM TX0 (by omega) (by omega)
    (fun pre W2 => GBox W2 N (mirL G pre)) (fun _ _ _ => False) (fun s A B h g => h.box g) (fun _ _ _ _ _ h => h) Q0.out ?assign ?body ?done ?stop)
  case assign =>
    intro l x W K hK
    simp only [List.setIfInBounds_toArray, List.set_cons_zero, List.set_cons_succ] at hK ⊢
    gi_wp2
    exact hK
  case body =>
    rintro l pre x W2 hI hB2 hbit hlt
    simp only [List.setIfInBounds_toArray, List.set_cons_zero, List.set_cons_succ]
    have hi : isB G x.1 = true := by rw [cellsN_testBit] at hbit; simpa [hlt] using hbit
    obtain ⟨hm, hmE, hm2, hm3⟩ := mir_lt Hv.out hlt hi
    obtain ⟨v1, v2, v3, v4⟩ := valid_ext Hv.out
    have key : G.wide - 1 - (x.1 : Int) % 8 + 8 * ((x.1 : Int) / 8) = ((mir G x.1 : Nat) : Int) := by omega
    have hmw : (x.1 : Int) % 8 < G.wide := by omega
    obtain ⟨j, hj⟩ : ∃ j, mir G x.1 = j := ⟨_, rfl⟩
    rw [hj] at hm key
    have Key := Lib.hid key
    have HJ := Lib.hid hj
    have HI := Lib.hid hI
    have HS0 := Lib.hid (Q0s.out.below hB2 (by omega))
    have zW := hI.lt
    have HBit := Lib.hid hbit
    have HB2 := Lib.hid hB2
    clear hi key hmE hj hm2 hm3 hI hbit hB2
    refine wpIn_block ?_
    gi_upto_region 8 with (refine ⟨trivial, ?_⟩; gi_at_call 65; refine (callsIn_wide.2 (placeOf_nat x.1 hlt _)).mono ?_; rintro e U1 ⟨rfl, hu1⟩; unfold Plc)
    obtain ⟨U, hU, zU, y0, y1, bU⟩ := plc_box ((x.1 : Int) % 8) ((x.1 : Int) / 8) 64 U1
    rw [hU]
    have z3 := hu1.size
    have k1 := hu1.trans (bU.mono z3)
    have HS1 := HS0.out.below k1 (by omega)
    have aw := HS1.at'.wide
    clear hU
    gi_upto_region 9 with (refine ⟨trivial, ?_⟩; gi_at_call 51; refine (callsIn_wide.2 (number_any (G.wide - 1 - (x.1 : Int) % 8) ((x.1 : Int) / 8) (by omega) (by omega) (by omega) (by omega) _)).mono ?_; rintro e U2 ⟨rfl, hu2⟩)
    rw [Key.out]
    have k2 := k1.trans (hu2.mono (by omega))
    have Pa := Lib.hid (HI.out.below k2 zW)
    have Pas := Lib.hid (HS0.out.below k2 (by omega))
    have Pak := Lib.hid (KeepsOthers.of_below' k2)
    have Pab := Lib.hid (show Below N W2 U2 from k2.mono (by omega))
    clear k1 k2 hu1 hu2 bU y0 y1 aw HS1
    have b0 := Pa.out.at_some (2 + j) (by omega)
    obtain ⟨u, hu⟩ := Option.isSome_iff_exists.1 b0
    have f0 := Pa.out.free (2 + j) (by omega)
    have Qa := Lib.hid (Pa.out.putC hm (x := G.c x.1))
    have Qas := Lib.hid (Pas.out.far (b' := N) (k := 2 + j) (v := .float .f32 (G.c x.1)) (by omega))
    have Qak := Lib.hid (KeepsOthers.trans Pak.out (KeepsOthers.setCell U2 ⟨N, 2 + j, none⟩ (.float .f32 (G.c x.1))))
    have Qab := Lib.hid (Pab.out.setCell (p := ⟨N, 2 + j, none⟩) (Nat.le_refl _) (.float .f32 (G.c x.1)))
    have s0 := Grd_fld Pas.out.at'.c x.1 hlt
    rw [Nat.zero_add] at s0
    clear b0
    gi_upto_region 10 with (fail)
    obtain ⟨Wa, hW⟩ : ∃ W', World.setCell U2 ⟨N, 2 + j, none⟩ (.float .f32 (G.c x.1)) = W' := ⟨_, rfl⟩
    rw [hW] at Qa Qas Qak Qab ⊢
    clear hW hu f0 s0 Pa Pas Pak Pab u
    have b0 := Qa.out.at_some (66 + j) (by omega)
    obtain ⟨u, hu⟩ := Option.isSome_iff_exists.1 b0
    have f0 := Qa.out.free (66 + j) (by omega)
    have Qb := Lib.hid (Qa.out.putG hm (x := G.g x.1))
    have Qbs := Lib.hid (Qas.out.far (b' := N) (k := 66 + j) (v := .float .f32 (G.g x.1)) (by omega))
    have Qbk := Lib.hid (KeepsOthers.trans Qak.out (KeepsOthers.setCell Wa ⟨N, 66 + j, none⟩ (.float .f32 (G.g x.1))))
    have Qbb := Lib.hid (Qab.out.setCell (p := ⟨N, 66 + j, none⟩) (Nat.le_refl _) (.float .f32 (G.g x.1)))
    have s0 := Grd_fld Qas.out.at'.g x.1 hlt
    rw [Nat.zero_add] at s0
    clear b0
    gi_upto_region 11 with (fail)
    obtain ⟨Wb, hW⟩ : ∃ W', World.setCell Wa ⟨N, 66 + j, none⟩ (.float .f32 (G.g x.1)) = W' := ⟨_, rfl⟩
    rw [hW] at Qb Qbs Qbk Qbb ⊢
    clear hW hu f0 s0 Qa Qas Qak Qab u
    have b0 := Qb.out.at_some (130 + j) (by omega)
    obtain ⟨u, hu⟩ := Option.isSome_iff_exists.1 b0
    have f0 := Qb.out.free (130 + j) (by omega)
    have Qc := Lib.hid (Qb.out.putH hm (x := G.h x.1))
    have Qcs := Lib.hid (Qbs.out.far (b' := N) (k := 130 + j) (v := .float .f32 (G.h x.1)) (by omega))
    have Qck := Lib.hid (KeepsOthers.trans Qbk.out (KeepsOthers.setCell Wb ⟨N, 130 + j, none⟩ (.float .f32 (G.h x.1))))
    have Qcb := Lib.hid (Qbb.out.setCell (p := ⟨N, 130 + j, none⟩) (Nat.le_refl _) (.float .f32 (G.h x.1)))
    have s0 := Grd_fld Qbs.out.at'.h x.1 hlt
    rw [Nat.zero_add] at s0
    clear b0
    gi_upto_region 12 with (fail)
    obtain ⟨Wc, hW⟩ : ∃ W', World.setCell Wb ⟨N, 130 + j, none⟩ (.float .f32 (G.h x.1)) = W' := ⟨_, rfl⟩
    rw [hW] at Qc Qcs Qck Qcb ⊢
    clear hW hu f0 s0 Qb Qbs Qbk Qbb u
    obtain ⟨X0, hX1, hX2⟩ := mirL_x G Hv.out (nos pre) (by rintro i hi; obtain ⟨y, _, rfl⟩ := List.mem_map.1 hi; have h1 := mem_bitsL.1 y.2; exact ⟨h1.1, by have h2 := h1.2; rw [cellsN_testBit] at h2; simpa [h1.1] using h2⟩)
    have HX1 := Lib.hid hX1
    clear hX1
    cases hb : G.x.toNat.testBit x.1
    · have Hb := Lib.hid hb
      have R := Lib.hid (mirS_no (H := mirL G (nos pre)) HJ.out hb HX1.out)
      clear hb
      gi_wp2_with (refine ⟨trivial, ?_⟩; gi_at_call 66; have hc := isFixed_any G x.1 hlt _ Wc Qcs.out.at' HG.out; rw [Hb.out] at hc; refine (callsIn_wide.2 hc).mono ?_; clear hc; rintro e w' ⟨rfl, rfl⟩)
      exact ⟨Qck.out, Qcb.out, (by rw [nos_snoc, mirL_snoc, R.out]; exact Qc.out), HB2.out.trans Qcb.out⟩
    · have Hb := Lib.hid hb
      have R := Lib.hid (mirS_eq (H := mirL G (nos pre)) HJ.out (mv_yes (H := mirL G (nos pre)) HJ.out hb HX1.out hX2 hm))
      clear hb
      have a5 := Qc.out.at'.x
      rw [Nat.zero_add] at a5
      have f5 := Qc.out.free 194 (by omega)
      gi_upto_region 13 with (refine ⟨trivial, ?_⟩; gi_at_call 66; have hc := isFixed_any G x.1 hlt _ Wc Qcs.out.at' HG.out; rw [Hb.out] at hc; refine (callsIn_wide.2 hc).mono ?_; clear hc; rintro e w' ⟨rfl, rfl⟩)
      have A5 : ∀ w', Quiet Wc w' → w'.cell? ⟨N, 194, none⟩ = some (.int .u64 (mirL G (nos pre)).x) := fun w' h => (h.cell _).trans a5
      refine wpIn_region_calm (ops' := regOf Tryd.f36 13) [0, 1, 2, 3, 4, 5] [6] (.run 6 .fin) (Quiet Wc) [(0, One (.pointer (some ⟨N, 194, none⟩))), (1, One (.int .u64 (mirL G (nos pre)).x)), (2, One (.int .i64 j)), (3, One (.int .u64 (IntKind.u64.wrap (2 ^ j)))), (4, One (.int .u64 (bits .or .u64 (mirL G (nos pre)).x (IntKind.u64.wrap (2 ^ j))))), (5, One (.pointer (some ⟨N, 194, none⟩)))] (by kernel_rfl) (by kernel_rfl) (by kernel_rfl) (by kernel_rfl) (by kernel_rfl) (by kernel_rfl) (by kernel_rfl) (by kernel_rfl) (by kernel_rfl) rfl ((Quiet.refl _).drewN 1) ?_
      refine calm_pure (some 53) (by kernel_rfl) (by kernel_rfl) (by kernel_rfl) (fun _ => by kernel_rfl) ?_
      refine calm_read (some 54) (by kernel_rfl) (by kernel_rfl) (by kernel_rfl) (fun w' hw' => load_cell (ty := 25) (x := .tmp 53) (b := N) (o := 194) (by kernel_rfl) (by kernel_rfl) Tryd.underlying25 rfl (A5 w' hw')) ?_
      refine calm_pure (some 55) (by kernel_rfl) (by kernel_rfl) (by kernel_rfl) (fun _ => by kernel_rfl) ?_
      refine calm_read (some 56) (by kernel_rfl) (by kernel_rfl) (by kernel_rfl) (fun w' _ => shl_op (x := .const (.int .u64 1)) (y := .tmp 55) (t := 2) (by kernel_rfl) (by kernel_rfl) (by kernel_rfl) hm w') ?_
      refine calm_pure (some 57) (by kernel_rfl) (by kernel_rfl) (by kernel_rfl) (fun _ => by kernel_rfl) ?_
      refine calm_pure (some 58) (by kernel_rfl) (by kernel_rfl) (by kernel_rfl) (fun _ => by kernel_rfl) ?_
      refine calm_end fun w' hw' => plan_do none undef (w'.setCell ⟨N, 194, none⟩ (.int .u64 (bits .or .u64 (mirL G (nos pre)).x (IntKind.u64.wrap (2 ^ j))))) (by kernel_rfl) (by kernel_rfl) (by kernel_rfl) (.inr ⟨store_u64 (x := .tmp 58) (y := .tmp 57) (by kernel_rfl) (by kernel_rfl) (by kernel_rfl) infoU64 (A5 w' hw') (by obtain ⟨n, rfl⟩ := hw'; exact f5), rfl⟩) trivial (plan_end (Clean.normal ?_))
      obtain ⟨n, rfl⟩ := hw'
      have k0 : KeepsOthers Wc (World.drewN Wc n) := ⟨Nat.le_refl _, fun _ _ h _ => h⟩
      have k1 := KeepsOthers.trans Qck.out (KeepsOthers.trans k0 (KeepsOthers.setCell (World.drewN Wc n) ⟨N, 194, none⟩ (.int .u64 (bits .or .u64 (mirL G (nos pre)).x (IntKind.u64.wrap (2 ^ j))))))
      have k2 : Below N W2 ((World.drewN Wc n).setCell ⟨N, 194, none⟩ (.int .u64 (bits .or .u64 (mirL G (nos pre)).x (IntKind.u64.wrap (2 ^ j))))) := (Qcb.out.trans (Quiet.below ⟨n, rfl⟩ _)).setCell (p := ⟨N, 194, none⟩) (Nat.le_refl _) _
      have k3 : GBox ((World.drewN Wc n).setCell ⟨N, 194, none⟩ (.int .u64 (bits .or .u64 (mirL G (nos pre)).x (IntKind.u64.wrap (2 ^ j))))) N (mirL G (nos (pre ++ [x]))) := by
        rw [nos_snoc, mirL_snoc, R.out]
        exact (Qc.out.below (Quiet.below ⟨n, rfl⟩ (N + 1)) (by omega)).putX
      exact ⟨k1, k2, k3, HB2.out.trans k2⟩
  case done =>
    rintro D W2 hD hI hB2 hK
    rw [cellL_bits] at hI
    have rr := hI.range
    have hr0 := Q0r.out.below hB2 (by omega)
    have HR0 := Lib.hid hr0
    have HD0 := Lib.hid (D0.out.trans (hB2.mono (by omega)))
    clear hr0 hI hB2 Q0 Q0s Q0r cM TX0
    go_wp2_with (first | (refine wpList_load_mid rfl 32 _ rfl N 0 rfl (GrdL (mirL G (cellL G))) _ rr Tryd.underlying32 rfl (by rw [GrdL_length]; exact infoGround) ?_) | (refine wpList_store_mid rfl 32 _ _ rfl _ 0 (Grd (mirL G (cellL G))) rfl rfl (by rw [Grd_size]; exact HR0.out.there) (by rw [Grd_size]; exact infoGround) (Grd_one _) ?_))
    have hK2 : (W2.setCells (w.heap.size + 1) 0 (Grd (mirL G (cellL G))).toList).heap[D]? = some (.deferred (some [])) := by rw [heap_setCells_other _ (by omega)]; exact hK
    have gR := HR0.out.store (H := mirL G (cellL G))
    refine ret_marks hK2 (fun W' h => ret_GN rfl rfl rfl (h.box gR).range) (fun W' _ hb => ⟨rfl, ?_⟩)
    exact (below_setCells (B := w.heap.size) (a := w) (w.heap.size + 1) (by omega) (Grd (mirL G (cellL G))).toList 0 W2 HD0.out).trans (hb _ (by omega))
  case stop =>
    rintro D c pre W _ _ h _ _
    exact h.elim

set_option maxRecDepth 100000 in
set_option maxHeartbeats 1000000 in
theorem implMirror_any (G : Gd) (w : World) (hG : GdOk G) (hT : TabAt w) :
    Calls Tryd.prog 36 #[.agg (Grd G)] w fun e w' => e = .returned (GN (mirG G) (mirN G)) ∧ Below w.heap.size w w' := by
  cases hv : validB G
  · have Hv := Lib.hid hv
    have R1 := Lib.hid (show mirG G = zG by simp [mirG, hv])
    have R2 := Lib.hid (show mirN G = 1 by simp [mirN, hv])
    clear hv
    have hz := (zero_of_info zeroGround).1
    go_enter Tryd.func36, Tryd.ntmps36
    go_upto_region 1 with (fail)
    obtain ⟨W, hW, hs, g1, g2, hB⟩ := gbox2 G zG 32 32 w
    rw [hW]
    clear hW
    have r1 := g1.range
    have G2 := Lib.hid g2
    have HB := Lib.hid hB
    have HG := Lib.hid hG
    have HT := Lib.hid (hT.below hB (tab_lt hT))
    clear g1 g2 hB hG hT
    go_wp2_with (first | (refine wpList_load_mid rfl 32 _ rfl w.heap.size 0 rfl (GrdL G) _ r1 Tryd.underlying32 rfl (by rw [GrdL_length]; exact infoGround) ?_) | (go_at_call 49; have hc := (validGround_any G W HG.out HT.out (tab_lt HT.out)); rw [Hv.out] at hc; refine hc.mono ?_; clear hc; rintro e w1 ⟨rfl, hb1⟩; have P2 := Lib.hid (G2.out.below hb1 (by omega))) | (refine wpList_store_mid rfl 32 _ _ rfl _ 0 (Grd zG) rfl rfl (by rw [Grd_size]; exact P2.out.there) (by rw [Grd_size]; exact infoGround) (Grd_one _) ?_))
    refine bodyPost_ret (ret_GN rfl rfl rfl P2.out.store.range) rfl ⟨by rw [R1.out, R2.out], below_setCells _ (by omega) _ _ _ (HB.out.trans (hb1.mono (by omega)))⟩
  · rw [show mirG G = mirL G (cellL G) by simp [mirG, hv], show mirN G = 0 by simp [mirN, hv]]
    exact implMirror_valid G w hG hT hv
end
end Go.Proofs.YtjbldgefabbgpaaDoor
