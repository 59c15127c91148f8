/- Facts on numbers: finite, the size. No condition. -/
import Derived.Test.YtcfkkceidlpdkaaDoorCalmF
import Derived.Test.YtcfkkceidlpdkaaDoorChkS
import Derived.Test.YtcfkkceidlpdkaaDoorRound
namespace Go.Proofs.YtcfkkceidlpdkaaDoor
open Go.RowKit Ieee
set_option linter.unusedSimpArgs false

/-- A number is finite. -/
def finB (b : Nat) : Bool := match single.read b with
  | .number .. => true
  | _ => false
/-- The same of a number up to which NaN it is. -/
def finO : Option Nat → Bool
  | some b => finB b
  | none => false

theorem fop_sub_self (b : Nat) : fop .f32 .sub (num .f32 b) (num .f32 b) = if finB b = true then some 0 else none := by
  rw [fop_num]
  show Format.sub single b b = _
  unfold Format.sub finB
  cases h : single.read b with
  | number s m i =>
    simp only [Datum.opposite, Datum.sum, if_true, Int.min_self, Int.sub_self]
    have e : signed s m (Int.toNat 0) + signed (!s) m (Int.toNat 0) = 0 := by
      cases s <;> simp [signed] <;> omega
    rw [e]
    simp [Format.write, Format.nearest]
    cases s <;> decide +kernel
  | infinity s => cases s <;> simp [Datum.opposite, Datum.sum]
  | nan s f => simp [Datum.opposite, Datum.sum]

theorem finB_num {a b : Nat} (h : num .f32 a = num .f32 b) : finB a = finB b := by
  cases ha : nanK .f32 a
  · rw [num_some ha] at h
    cases hb : nanK .f32 b
    · rw [num_some hb] at h
      rw [Option.some.inj h]
    · rw [num_none hb] at h; cases h
  · rw [num_none ha] at h
    have hb := num_eq_none h.symm
    rw [nanK_read] at ha hb
    unfold finB
    have f : FloatKind.f32.format = single := rfl
    rw [f] at ha hb
    cases h1 : single.read a <;> cases h2 : single.read b <;> simp [h1, h2, Datum.isNaN] at ha hb ⊢

theorem finO_num (b : Nat) : finO (num .f32 b) = finB b := by
  cases hb : nanK .f32 b
  · rw [num_some hb]; rfl
  · rw [num_none hb]
    rw [nanK_read] at hb
    have f : FloatKind.f32.format = single := rfl
    rw [f] at hb
    unfold finO finB
    cases h1 : single.read b <;> simp [h1, Datum.isNaN] at hb ⊢

set_option maxRecDepth 100000 in
theorem l01Finite_any (b : Nat) (w : World) : Calls Tryd.prog 45 #[.float .f32 b] w fun e w' => e = .returned (.bool (finB b)) ∧ Quiet w w' := by
  have hs := fop_sub_self b
  have HS := Lib.hid hs
  clear hs
  go_enter Tryd.func45, Tryd.ntmps45
  go_wp2_with (refine wpList_float rfl _ _ _ _ _ rfl rfl .f32 _ _ rfl rfl ?_; intro r n hr; have HR := Lib.hid (hr.trans HS.out); clear hr)
  cases hf : finB b
  · have h := HR.out
    rw [hf] at h
    have e : (FloatKind.f32.format.order r 0 == some Ordering.eq) = false := by
      have h1 := num_eq_none h
      rw [nanK_read] at h1
      unfold Format.order
      cases h2 : FloatKind.f32.format.read r <;> simp [h2, Datum.isNaN] at h1
      cases h3 : FloatKind.f32.format.read 0 <;> rfl
    go_ret
    exact ⟨ret_bool e, n, rfl⟩
  · have h := HR.out
    rw [hf] at h
    obtain ⟨rfl, _⟩ := num_eq_some h
    go_ret
    exact ⟨ret_bool (by decide +kernel), n, rfl⟩

/-- The size of a number, up to which NaN it is. -/
def sizeO (o : Option Nat) : Option Nat := o.map absN

theorem f64bits (b : Nat) (w : World) : (callFunc 106 #[.float .f64 b]).run Tryd.prog w = .ok (.value (.int .u64 b)) w := by kernel_rfl
theorem f64from (n : Nat) (w : World) : (callFunc 105 #[.int .u64 n]).run Tryd.prog w = .ok (.value (.float .f64 n)) w := by kernel_rfl

theorem andNot63 (x : Nat) : bits .andNot .u64 (x : Int) 9223372036854775808 = ((x % 9223372036854775808 : Nat) : Int) := by
  have h1 : (BitVec.ofInt 64 (x : Int)) = BitVec.ofNat 64 x := by rw [BitVec.ofInt_natCast]
  show IntKind.u64.wrap ((BitVec.ofInt 64 (x : Int) &&& ~~~ BitVec.ofInt 64 (9223372036854775808 : Int)).toNat : Int) = _
  have hn : (BitVec.ofInt 64 (x : Int) &&& ~~~ BitVec.ofInt 64 (9223372036854775808 : Int)).toNat = x % 9223372036854775808 := by
    rw [h1, show BitVec.ofInt 64 (9223372036854775808 : Int) = BitVec.ofNat 64 9223372036854775808 from rfl]
    apply Nat.eq_of_testBit_eq
    intro i
    rw [BitVec.testBit_toNat, BitVec.getLsbD_and, BitVec.getLsbD_not, BitVec.getLsbD_ofNat, BitVec.getLsbD_ofNat, show (9223372036854775808 : Nat) = 2 ^ 63 from rfl, Nat.testBit_mod_two_pow, Nat.testBit_two_pow]
    by_cases h : i < 63
    · have e : ¬ 63 = i := by omega
      have e2 : i < 64 := by omega
      simp [h, e, e2]
    · by_cases e : i = 63
      · subst e; simp
      · have e2 : ¬ i < 64 := by omega
        simp [h, e2]
  rw [hn, IntKind.wrap_u64]
  omega

set_option maxRecDepth 100000 in
theorem abs_any (x : Nat) (w : World) : Calls Tryd.prog 93 #[.float .f64 x] w fun e w' => e = .returned (.float .f64 (x % 9223372036854775808)) ∧ w = w' := by
  have h1 := f64bits
  have h2 : ∀ w, (callFunc 105 #[.int .u64 ((x : Int) % 9223372036854775808)]).run Tryd.prog w = .ok (.value (.float .f64 (x % 9223372036854775808))) w := fun w => f64from (x % 9223372036854775808) w
  have h3 := andNot63 x
  go_enter Tryd.func93, Tryd.ntmps93
  go_wp2_with (simp only [h3])
  go_ret
  exact ⟨rfl, rfl⟩

/-- A wide number that fits made narrow. -/
theorem run_narrow (P : Program) (w : World) (src dst : TypeId) (hs : P.underlying src = some (.float .f64)) (hd : P.underlying dst = some (.float .f32)) (x : Nat)
    (hf : nanK .f64 x = false → (FloatKind.f64.format.read x).isInfinity = false → (FloatKind.f32.format.read (FloatKind.f32.format.write (FloatKind.f64.format.read x))).isInfinity = false) :
    ∃ r n, num .f32 r = (if nanK .f64 x = true then none else some (FloatKind.f32.format.write (FloatKind.f64.format.read x))) ∧ (convert src dst (.float .f64 x)).run P w = .ok (.float .f32 r) (w.drewN n) := by
  cases hn : nanK .f64 x
  · have hn' : (FloatKind.f64.format.read x).isNaN = false := by rw [← hn, nanK_read]
    refine ⟨FloatKind.f32.format.write (FloatKind.f64.format.read x), 0, ?_, ?_⟩
    · rw [if_neg (by simp)]
      exact num_some (write_notnan .f32 _ hn')
    · refine run_convert_float_float w src dst .f64 .f32 x _ (by simp [hs]) hd ?_
      unfold floatToFloatBits
      show (if FloatKind.f64 = FloatKind.f32 then _ else _) = _
      rw [if_neg (by decide)]
      have hf' := hf hn
      show (match FloatKind.f64.format.read x with | .nan _ _ => _ | .infinity s => _ | .number s m e => _) = _
      cases hr : FloatKind.f64.format.read x with
      | number s m i =>
        rw [hr] at hf'
        have := hf' rfl
        simp [FloatKind.encode, FloatKind.decode, this]
      | infinity s => rfl
      | nan s f => rw [hr] at hn'; simp [Datum.isNaN] at hn'
  · have hn' : (FloatKind.f64.format.read x).isNaN = true := by rw [← hn, nanK_read]
    refine ⟨(Question.nanConv .f32 x).cut (w.tape w.drawn (.nanConv .f32 x)), 1, ?_, ?_⟩
    · rw [if_pos rfl]
      exact num_none (cut_nan .f32 0 0 (w.tape w.drawn (.nanConv .f32 x)))
    · cases hr : FloatKind.f64.format.read x with
      | number s m i => rw [hr] at hn'; simp [Datum.isNaN] at hn'
      | infinity s => rw [hr] at hn'; simp [Datum.isNaN] at hn'
      | nan s f =>
        have hd' : FloatKind.f64.decode x = .nan s f := hr
        simp [convert, run_underlying hs, run_underlying hd, Conv.floatToFloat, hd', Question.forced, World.drew_is_drewN]

/-- A CONVERSION TO A NARROW NUMBER, IN A WALK. -/
theorem wpList_narrow {P : Program} {ops : Array Oper} {rest : List Oper} {o : Oper} {a : Act} {w : World} {Q : Exit → Act → World → Prop} (hg : o.guard = none) (src dst : TypeId) (x : Operand)
    (ho : o.op = .convert src dst x) (hs : P.underlying src = some (.float .f64)) (hd : P.underlying dst = some (.float .f32)) (b : Nat) (hx : a.eval x = .float .f64 b)
    (hf : nanK .f64 b = false → (FloatKind.f64.format.read b).isInfinity = false → (FloatKind.f32.format.read (FloatKind.f32.format.write (FloatKind.f64.format.read b))).isInfinity = false)
    (h : ∀ r n, num .f32 r = (if nanK .f64 b = true then none else some (FloatKind.f32.format.write (FloatKind.f64.format.read b))) → wpList P ops Q rest (a.put o.dst (.float .f32 r)) (w.drewN n)) : wpList P ops Q (o :: rest) a w :=
  wpList_plain hg fun K hK => by
    obtain ⟨r, n, hr, hrun⟩ := run_narrow P w src dst hs hd b hf
    unfold Oper.wp execOp
    simp only [ho, hx]
    simp only [Sem.run_bind, hrun, Result.andThen]
    exact hK _ _ (h r n hr)

theorem nan_mod (x : Nat) : nanK .f64 (x % 9223372036854775808) = nanK .f64 x := by
  rw [nanK_read, nanK_read]
  show (double.read (x % 9223372036854775808)).isNaN = (double.read x).isNaN
  unfold Format.read
  simp only [d1, Nat.mod_mod]
  split
  · rfl
  · split
    · rfl
    · split <;> rfl

theorem size_wide {b r : Nat} (h : num .f64 r = (num .f32 b).map cv) :
    (nanK .f64 (r % 9223372036854775808) = false → (FloatKind.f64.format.read (r % 9223372036854775808)).isInfinity = false → (FloatKind.f32.format.read (FloatKind.f32.format.write (FloatKind.f64.format.read (r % 9223372036854775808)))).isInfinity = false) ∧
    (if nanK .f64 (r % 9223372036854775808) = true then none else some (FloatKind.f32.format.write (FloatKind.f64.format.read (r % 9223372036854775808)))) = sizeO (num .f32 b) := by
  cases hb : nanK .f32 b
  · rw [num_some hb] at h ⊢
    obtain ⟨rfl, hn⟩ := num_eq_some (b := cv b) h
    obtain ⟨h1, h2, h3⟩ := cv_abs b hb
    rw [nanK_read, h1, h2]
    exact ⟨fun _ => h3, rfl⟩
  · rw [num_none hb] at h ⊢
    have hn := num_eq_none (k := .f64) (a := r) h
    rw [nan_mod, hn]
    exact ⟨fun h => (by cases h), rfl⟩

set_option maxRecDepth 100000 in
theorem sizeOf_any (b : Nat) (w : World) : Calls Tryd.prog 65 #[.float .f32 b] w fun e w' => ∃ r, e = .returned (.float .f32 r) ∧ num .f32 r = sizeO (num .f32 b) ∧ Quiet w w' := by
  go_enter Tryd.func65, Tryd.ntmps65
  go_wp2_with (first | (refine wpList_conv rfl _ _ _ rfl Tryd.underlying23 Tryd.underlying35 _ rfl ?_; intro x n hx; have X := Lib.hid (size_wide hx); clear hx) | (go_at_call 93; refine (abs_any x _).mono ?_; rintro e w' ⟨rfl, rfl⟩) | (refine wpList_narrow rfl _ _ _ rfl Tryd.underlying35 Tryd.underlying23 _ rfl X.out.1 ?_; intro r m hr; have HR := Lib.hid hr; clear hr))
  go_ret
  exact ⟨r, rfl, HR.out.trans X.out.2, _, rfl⟩

theorem max_read : single.read 2139095039 = .number false 16777215 104 := by decide +kernel
theorem zero_read : single.read 0 = .number false 0 (-149) := by decide +kernel
theorem le_max (t : Bool) (m : Nat) (i : Int) (h1 : m < 16777216) (h3 : i ≤ 104) : (Datum.order (.number t m i) (.number false 16777215 104) == some Ordering.lt || Datum.order (.number t m i) (.number false 16777215 104) == some Ordering.eq) = true := by
  have e2 : min i (104 : Int) = i := by omega
  have e3 : (i - i).toNat = 0 := by omega
  obtain ⟨j, hj⟩ : ∃ j : Nat, (104 - i).toNat = j := ⟨_, rfl⟩
  have hq : 1 ≤ 2 ^ j := Nat.two_pow_pos j
  have hm : m ≤ 16777215 * 2 ^ j := by
    calc m ≤ 16777215 * 1 := by omega
      _ ≤ 16777215 * 2 ^ j := Nat.mul_le_mul_left _ hq
  have hle : signed t m 0 ≤ signed false 16777215 j := by
    have h0 : m <<< 0 ≤ 16777215 <<< j := by rw [Nat.shiftLeft_eq, Nat.shiftLeft_eq]; omega
    generalize hx : m <<< 0 = x at h0
    generalize hy : 16777215 <<< j = y at h0
    unfold signed
    rw [hx, hy]
    cases t
    · show (x : Int) ≤ (y : Int)
      omega
    · show -(x : Int) ≤ (y : Int)
      omega
  simp only [Datum.order, e2, e3, hj]
  generalize signed t m 0 = x at hle
  generalize signed false 16777215 j = y at hle
  rcases Int.lt_or_eq_of_le hle with h | h
  · simp [compare, compareOfLessAndEq, h]
  · simp [compare, compareOfLessAndEq, h]

theorem absN_read (b : Nat) : single.read (absN b) = match single.read b with
    | .number _ m i => .number false m i
    | .infinity _ => .infinity false
    | .nan _ f => .nan false f := by
  have e1 : b % 2147483648 / 2147483648 % 2 = 0 := by omega
  have e2 : b % 2147483648 % 2147483648 = b % 2147483648 := by omega
  unfold Format.read absN
  simp only [s1, s2, s3, s4, e1, e2]
  split
  · rfl
  · split
    · rfl
    · split <;> rfl
theorem size_le {b r : Nat} (h : num .f32 r = sizeO (num .f32 b)) : (FloatKind.f32.format.order r 2139095039 == some Ordering.lt || FloatKind.f32.format.order r 2139095039 == some Ordering.eq) = finB b := by
  show ((single.read r).order (single.read 2139095039) == some Ordering.lt || (single.read r).order (single.read 2139095039) == some Ordering.eq) = finB b
  rw [max_read]
  cases hb : nanK .f32 b
  · rw [num_some hb] at h
    obtain ⟨rfl, _⟩ := num_eq_some (b := absN b) h
    rw [absN_read]
    unfold finB
    cases h : single.read b with
    | number s m i =>
      obtain ⟨h1, _, h3⟩ := single_number h
      exact le_max false m i h1 h3
    | infinity s => rfl
    | nan s f => rfl
  · rw [num_none hb] at h
    have hn := num_eq_none (k := .f32) (a := r) h
    rw [nanK_read] at hn hb
    have hf : FloatKind.f32.format = single := rfl
    rw [hf] at hn hb
    unfold finB
    cases h1 : single.read r <;> cases h2 : single.read b <;> simp [h1, h2, Datum.isNaN] at hn hb ⊢
    simp [Datum.order]

theorem isFinite_any (b : Nat) (w : World) : Calls Tryd.prog 60 #[.float .f32 b] w fun e w' => e = .returned (.bool (finB b)) ∧ Quiet w w' := by
  go_enter Tryd.func60, Tryd.ntmps60
  go_wp2_with (go_at_call 65; refine (sizeOf_any b _).mono ?_; rintro e w' ⟨r, rfl, hr, hq⟩; have hs := Lib.hid (size_le hr); clear hr)
  go_ret
  exact ⟨ret_bool hs.out, hq⟩

/-- A number and its code, as a result. -/
def FI (b : Nat) (n : Int) : Value := .tuple #[.float .f32 b, .int .i64 n]
theorem ifFinite_any (b : Nat) (w : World) : Calls Tryd.prog 49 #[.float .f32 b] w fun e w' => e = .returned (if finB b = true then FI b 0 else FI 0 4) ∧ Quiet w w' := by
  cases hf : finB b
  · have hf' := Lib.hid hf
    clear hf
    go_enter Tryd.func49, Tryd.ntmps49
    go_wp2_with (go_at_call 60; have hc := (isFinite_any b w); rw [hf'.out] at hc; refine hc.mono ?_; clear hc; rintro e w' ⟨rfl, hq⟩)
    go_ret2
    exact ⟨rfl, hq⟩
  · have hf' := Lib.hid hf
    clear hf
    go_enter Tryd.func49, Tryd.ntmps49
    go_wp2_with (go_at_call 60; have hc := (isFinite_any b w); rw [hf'.out] at hc; refine hc.mono ?_; clear hc; rintro e w' ⟨rfl, hq⟩)
    go_ret2
    exact ⟨rfl, hq⟩
end Go.Proofs.YtcfkkceidlpdkaaDoor
