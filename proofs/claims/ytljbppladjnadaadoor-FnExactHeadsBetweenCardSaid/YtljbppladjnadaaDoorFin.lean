/- Facts on numbers: finite, the size, the opposite. No condition. -/
import Derived.Test.YtljbppladjnadaaDoorCalmF
import Derived.Test.YtljbppladjnadaaDoorChkS
namespace Go.Proofs.YtljbppladjnadaaDoor
open Go.RowKit Ieee
set_option linter.unusedSimpArgs false

/-- A number is finite. -/
def finB (b : Nat) : Bool := match single.read b with
  | .number .. => true
  | _ => false
/-- The same of a number up to which NaN it is. -/
def finO : Option Nat → Bool
  | some b => finB b
  | none => false

theorem fop_sub_self (b : Nat) : fop .f32 .sub (num .f32 b) (num .f32 b) = if finB b = true then some 0 else none := by
  rw [fop_num]
  show Format.sub single b b = _
  unfold Format.sub finB
  cases h : single.read b with
  | number s m i =>
    simp only [Datum.opposite, Datum.sum, if_true, Int.min_self, Int.sub_self]
    have e : signed s m (Int.toNat 0) + signed (!s) m (Int.toNat 0) = 0 := by
      cases s <;> simp [signed] <;> omega
    rw [e]
    simp [Format.write, Format.nearest]
    cases s <;> decide +kernel
  | infinity s => cases s <;> simp [Datum.opposite, Datum.sum]
  | nan s f => simp [Datum.opposite, Datum.sum]

theorem finB_num {a b : Nat} (h : num .f32 a = num .f32 b) : finB a = finB b := by
  cases ha : nanK .f32 a
  · rw [num_some ha] at h
    cases hb : nanK .f32 b
    · rw [num_some hb] at h
      rw [Option.some.inj h]
    · rw [num_none hb] at h; cases h
  · rw [num_none ha] at h
    have hb := num_eq_none h.symm
    rw [nanK_read] at ha hb
    unfold finB
    have f : FloatKind.f32.format = single := rfl
    rw [f] at ha hb
    cases h1 : single.read a <;> cases h2 : single.read b <;> simp [h1, h2, Datum.isNaN] at ha hb ⊢

theorem finO_num (b : Nat) : finO (num .f32 b) = finB b := by
  cases hb : nanK .f32 b
  · rw [num_some hb]; rfl
  · rw [num_none hb]
    rw [nanK_read] at hb
    have f : FloatKind.f32.format = single := rfl
    rw [f] at hb
    unfold finO finB
    cases h1 : single.read b <;> simp [h1, Datum.isNaN] at hb ⊢

set_option maxRecDepth 100000 in
theorem l01Finite_any (b : Nat) (w : World) : Calls Tryd.prog 68 #[.float .f32 b] w fun e w' => e = .returned (.bool (finB b)) ∧ Quiet w w' := by
  have hs := fop_sub_self b
  have HS := Lib.hid hs
  clear hs
  go_enter Tryd.func68, Tryd.ntmps68
  go_wp2_with (refine wpList_float rfl _ _ _ _ _ rfl rfl .f32 _ _ rfl rfl ?_; intro r n hr; have HR := Lib.hid (hr.trans HS.out); clear hr)
  cases hf : finB b
  · have h := HR.out
    rw [hf] at h
    have e : (FloatKind.f32.format.order r 0 == some Ordering.eq) = false := by
      have h1 := num_eq_none h
      rw [nanK_read] at h1
      unfold Format.order
      cases h2 : FloatKind.f32.format.read r <;> simp [h2, Datum.isNaN] at h1
      cases h3 : FloatKind.f32.format.read 0 <;> rfl
    go_ret
    exact ⟨ret_bool e, n, rfl⟩
  · have h := HR.out
    rw [hf] at h
    obtain ⟨rfl, _⟩ := num_eq_some h
    go_ret
    exact ⟨ret_bool (by decide +kernel), n, rfl⟩

theorem xor_mod (b : Nat) : (b ^^^ 2 ^ 31) % 2 ^ 31 = b % 2 ^ 31 := by
  apply Nat.eq_of_testBit_eq
  intro i
  rw [Nat.testBit_mod_two_pow, Nat.testBit_mod_two_pow, Nat.testBit_xor, Nat.testBit_two_pow]
  by_cases h : i < 31
  · have : ¬ 31 = i := by omega
    simp [h, this]
  · simp [h]
theorem xor_div (b : Nat) : (b ^^^ 2 ^ 31) / 2 ^ 31 % 2 = 1 - b / 2 ^ 31 % 2 := by
  have h1 : ∀ n : Nat, n / 2 ^ 31 % 2 = (n.testBit 31).toNat := fun n => by
    rw [Nat.testBit_eq_decide_div_mod_eq]
    have : n / 2 ^ 31 % 2 = 0 ∨ n / 2 ^ 31 % 2 = 1 := by omega
    rcases this with h | h <;> simp [h]
  rw [h1, h1, Nat.testBit_xor, Nat.testBit_two_pow]
  cases b.testBit 31 <;> simp
/-- The opposite of a number. -/
def ngt (b : Nat) : Nat := b ^^^ 2 ^ 31
theorem read_ngt (b : Nat) : single.read (ngt b) = (single.read b).opposite := by
  have e1 : single.signWeight = 2 ^ 31 := by decide +kernel
  unfold Format.read ngt
  simp only [e1, xor_mod, xor_div]
  have hs : ((1 - b / 2 ^ 31 % 2 == 1) : Bool) = !(b / 2 ^ 31 % 2 == 1) := by
    have : b / 2 ^ 31 % 2 = 0 ∨ b / 2 ^ 31 % 2 = 1 := by omega
    rcases this with h | h <;> simp [h]
  rw [hs]
  split
  · rfl
  · split
    · rfl
    · split <;> rfl

/-- The size of a number, as the program finds it. -/
def sizeB (b : Nat) : Nat := if negB b = true then ngt b else b
theorem neg_run (b : Nat) (w : World) : (Op.unary .neg (.float .f32 b)).run Tryd.prog w = .ok (.float .f32 (ngt b)) w := rfl
theorem sizeOf_any (b : Nat) (w : World) : Calls Tryd.prog 81 #[.float .f32 b] w fun e w' => e = .returned (.float .f32 (sizeB b)) ∧ w = w' := by
  cases h : negB b
  · have R := Lib.hid (show sizeB b = b by simp [sizeB, h])
    unfold negB at h
    go_enter Tryd.func81, Tryd.ntmps81
    go_wp2
    go_ret
    exact ⟨by rw [R.out]; rfl, rfl⟩
  · have R := Lib.hid (show sizeB b = ngt b by simp [sizeB, h])
    unfold negB at h
    go_enter Tryd.func81, Tryd.ntmps81
    go_wp2
    rw [neg_run]
    simp only [Result.andThen_ok, Oper.upon_value]
    go_wp2
    go_ret
    exact ⟨by rw [R.out]; rfl, rfl⟩

theorem max_read : single.read 2139095039 = .number false 16777215 104 := by decide +kernel
theorem zero_read : single.read 0 = .number false 0 (-149) := by decide +kernel
theorem le_max (t : Bool) (m : Nat) (i : Int) (h1 : m < 16777216) (h3 : i ≤ 104) : (Datum.order (.number t m i) (.number false 16777215 104) == some Ordering.lt || Datum.order (.number t m i) (.number false 16777215 104) == some Ordering.eq) = true := by
  have e2 : min i (104 : Int) = i := by omega
  have e3 : (i - i).toNat = 0 := by omega
  obtain ⟨j, hj⟩ : ∃ j : Nat, (104 - i).toNat = j := ⟨_, rfl⟩
  have hq : 1 ≤ 2 ^ j := Nat.two_pow_pos j
  have hm : m ≤ 16777215 * 2 ^ j := by
    calc m ≤ 16777215 * 1 := by omega
      _ ≤ 16777215 * 2 ^ j := Nat.mul_le_mul_left _ hq
  have hle : signed t m 0 ≤ signed false 16777215 j := by
    have h0 : m <<< 0 ≤ 16777215 <<< j := by rw [Nat.shiftLeft_eq, Nat.shiftLeft_eq]; omega
    generalize hx : m <<< 0 = x at h0
    generalize hy : 16777215 <<< j = y at h0
    unfold signed
    rw [hx, hy]
    cases t
    · show (x : Int) ≤ (y : Int)
      omega
    · show -(x : Int) ≤ (y : Int)
      omega
  simp only [Datum.order, e2, e3, hj]
  generalize signed t m 0 = x at hle
  generalize signed false 16777215 j = y at hle
  rcases Int.lt_or_eq_of_le hle with h | h
  · simp [compare, compareOfLessAndEq, h]
  · simp [compare, compareOfLessAndEq, h]

theorem size_read (b : Nat) : single.read (sizeB b) = single.read b ∨ single.read (sizeB b) = (single.read b).opposite := by
  unfold sizeB
  split
  · exact .inr (read_ngt b)
  · exact .inl rfl
theorem size_le (b : Nat) : (FloatKind.f32.format.order (sizeB b) 2139095039 == some Ordering.lt || FloatKind.f32.format.order (sizeB b) 2139095039 == some Ordering.eq) = finB b := by
  show ((single.read (sizeB b)).order (single.read 2139095039) == some Ordering.lt || (single.read (sizeB b)).order (single.read 2139095039) == some Ordering.eq) = finB b
  rw [max_read]
  unfold finB
  cases h : single.read b with
  | number s m i =>
    obtain ⟨h1, _, h3⟩ := single_number h
    rcases size_read b with e | e
    · rw [e, h]; exact le_max s m i h1 h3
    · rw [e, h]; exact le_max (!s) m i h1 h3
  | infinity s =>
    have e : single.read (sizeB b) = .infinity false := by
      unfold sizeB negB
      show single.read (if ((single.read b).order (single.read 0) == some Ordering.lt) = true then ngt b else b) = _
      rw [h, zero_read]
      cases s
      · simp [Datum.order, h]
      · simp [Datum.order, read_ngt, h, Datum.opposite]
    rw [e]
    simp [Datum.order]
  | nan s f =>
    have e : ∃ t, single.read (sizeB b) = .nan t f := by
      rcases size_read b with e | e
      · exact ⟨s, e.trans h⟩
      · exact ⟨!s, e.trans (by rw [h]; rfl)⟩
    obtain ⟨t, e⟩ := e
    rw [e]
    simp [Datum.order]

theorem isFinite_any (b : Nat) (w : World) : Calls Tryd.prog 76 #[.float .f32 b] w fun e w' => e = .returned (.bool (finB b)) ∧ w = w' := by
  have hs := Lib.hid (size_le b)
  go_enter Tryd.func76, Tryd.ntmps76
  go_wp2_with (go_at_call 81; refine (sizeOf_any b _).mono ?_; rintro e w' ⟨rfl, rfl⟩)
  go_ret
  exact ⟨ret_bool hs.out, rfl⟩

/-- A number and its code, as a result. -/
def FI (b : Nat) (n : Int) : Value := .tuple #[.float .f32 b, .int .i64 n]
theorem ifFinite_any (b : Nat) (w : World) : Calls Tryd.prog 69 #[.float .f32 b] w fun e w' => e = .returned (if finB b = true then FI b 0 else FI 0 4) ∧ w = w' := by
  cases hf : finB b
  · have hf' := Lib.hid hf
    clear hf
    go_enter Tryd.func69, Tryd.ntmps69
    go_wp2_with (go_at_call 76; have hc := (isFinite_any b w); rw [hf'.out] at hc; refine hc.mono ?_; clear hc; rintro e w' ⟨rfl, rfl⟩)
    go_ret2
    exact ⟨rfl, rfl⟩
  · have hf' := Lib.hid hf
    clear hf
    go_enter Tryd.func69, Tryd.ntmps69
    go_wp2_with (go_at_call 76; have hc := (isFinite_any b w); rw [hf'.out] at hc; refine hc.mono ?_; clear hc; rintro e w' ⟨rfl, rfl⟩)
    go_ret2
    exact ⟨rfl, rfl⟩
end Go.Proofs.YtljbppladjnadaaDoor
