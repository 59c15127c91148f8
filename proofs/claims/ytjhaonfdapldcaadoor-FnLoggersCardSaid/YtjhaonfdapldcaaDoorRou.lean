/- math.Round by the bits of a number, and what a logger keeps of a head, the program's. Condition: the head is plain. -/
import Derived.Test.YtjhaonfdapldcaaDoorLgd
namespace Go.Proofs.YtjhaonfdapldcaaDoor
open Go Go.RowKit Ieee
set_option linter.unusedSimpArgs false
set_option linter.unusedVariables false
attribute [local go_sem] Oper.semAt_some

theorem wd_lt (s : Bool) {A : Nat} (h : A < 9223372036854775808) : wd s A < 18446744073709551616 := by unfold wd; split <;> omega
theorem exp_bits (s : Bool) {A : Nat} (h : A ≤ 4728779608739020800) : bits .and .u64 ((wd s A : Nat) / 4503599627370496 : Int) 2047 = ((A / 4503599627370496 : Nat) : Int) := by
  have hl := wd_lt s (A := A) (by omega)
  have e := u64_and ((wd s A : Nat) / 4503599627370496 : Int) 2047 (by omega) (by omega) (by omega) (by omega)
  rw [e]
  have e2 : ((wd s A : Nat) / 4503599627370496 : Int).toNat &&& (2047 : Int).toNat = A / 4503599627370496 := by
    rw [show ((wd s A : Nat) / 4503599627370496 : Int).toNat = wd s A / 4503599627370496 by omega, show (2047 : Int).toNat = 2 ^ 11 - 1 by decide, Nat.and_two_pow_sub_one_eq_mod]
    unfold wd
    split <;> omega
  rw [e2]
theorem sign_bits (s : Bool) {A : Nat} (h : A ≤ 4728779608739020800) : bits .and .u64 ((wd s A : Nat) : Int) 9223372036854775808 = ((wd s 0 : Nat) : Int) := by
  have hl := wd_lt s (A := A) (by omega)
  have e := u64_and ((wd s A : Nat) : Int) 9223372036854775808 (by omega) (by omega) (by omega) (by omega)
  rw [e, Int.toNat_natCast, show (9223372036854775808 : Int).toNat = 2 ^ 63 by decide]
  congr 1
  refine Nat.eq_of_testBit_eq fun i => ?_
  rw [Nat.testBit_and, Nat.testBit_two_pow]
  have h0 : wd s 0 = if s = true then 2 ^ 63 else 0 := by unfold wd; cases s <;> rfl
  rw [h0]
  by_cases hi : i = 63
  · subst hi
    rw [Nat.testBit_eq_decide_div_mod_eq]
    have : wd s A / 2 ^ 63 % 2 = s.toNat := by
      rw [show (2 : Nat) ^ 63 = 9223372036854775808 by rfl]
      unfold wd; cases s <;> simp <;> omega
    rw [this]
    cases s <;> decide
  · rw [decide_eq_false (fun h => hi h.symm), Bool.and_false]
    cases s
    · rw [if_neg (by decide), Nat.zero_testBit]
    · rw [if_pos rfl, Nat.testBit_two_pow, decide_eq_false (fun h => hi h.symm)]
theorem one_bits (s : Bool) : bits .or .u64 ((wd s 0 : Nat) : Int) 4607182418800017408 = ((wd s 4607182418800017408 : Nat) : Int) := by cases s <;> decide +kernel
theorem clear_bits (s : Bool) {A F : Nat} (hA : A < 9223372036854775808) (hF : F ≤ 52) : bits .andNot .u64 ((wd s A : Nat) : Int) ((2 ^ F - 1 : Nat) : Int) = ((wd s (A / 2 ^ F * 2 ^ F) : Nat) : Int) := by
  have hl := wd_lt s hA
  have hP : 2 ^ F ≤ 2 ^ 52 := Nat.pow_le_pow_right (by decide) hF
  rw [p52] at hP
  obtain ⟨n, e, hn, hb⟩ := bits_andNot (wd s A) (2 ^ F - 1) hl (by omega)
  rw [e]
  congr 1
  have h1 : wd s (A / 2 ^ F * 2 ^ F) = wd s A / 2 ^ F * 2 ^ F := by
    have h63 : 9223372036854775808 = 2 ^ (63 - F) * 2 ^ F := by
      rw [← Nat.pow_add, show 63 - F + F = 63 by omega]
    unfold wd
    split
    · rw [h63, Nat.mul_comm (2 ^ (63 - F)), Nat.mul_add_div (Nat.two_pow_pos F), Nat.add_mul, Nat.mul_comm (2 ^ F)]
    · rfl
  rw [h1]
  refine Nat.eq_of_testBit_eq fun i => ?_
  rw [Nat.testBit_mul_two_pow, Nat.testBit_div_two_pow]
  by_cases hi : i < 64
  · rw [hb i hi, Nat.testBit_two_pow_sub_one]
    by_cases hf : F ≤ i
    · rw [decide_eq_true hf, decide_eq_false (by omega), show i - F + F = i by omega]
      simp
    · rw [decide_eq_false hf, decide_eq_true (by omega)]
      simp
  · have h64 : (2 : Nat) ^ 64 ≤ 2 ^ i := Nat.pow_le_pow_right (by decide) (by omega)
    rw [show (2 : Nat) ^ 64 = 18446744073709551616 by rfl] at h64
    rw [Nat.testBit_lt_two_pow (by omega)]
    by_cases hf : F ≤ i
    · rw [show i - F + F = i by omega, Nat.testBit_lt_two_pow (by omega)]; simp
    · simp [hf]

set_option maxRecDepth 100000 in
set_option maxHeartbeats 2000000 in
theorem round_any (s : Bool) (A : Nat) (h3 : A ≤ 4728779608739020800) (w : World) :
    Calls Tryd.prog 63 #[.float .f64 (wd s A)] w fun e w' => e = .returned (.float .f64 (wd s (rdn (qN A)))) ∧ w = w' := by
  have b1 := f64bits
  have b2 := f64from (wd s (rdn (qN A)))
  have hE := exp_bits s h3
  have hS := sign_bits s h3
  have hO := one_bits s
  have hl := wd_lt s (A := A) (by omega)
  obtain ⟨X, hX⟩ : ∃ X, wd s A = X := ⟨_, rfl⟩
  rw [hX] at hE hS hl ⊢
  obtain ⟨e, he⟩ : ∃ e, A / 4503599627370496 = e := ⟨_, rfl⟩
  rw [he] at hE
  by_cases c1 : e < 1022
  · rw [q_none (by omega)] at b2 ⊢
    have b2 : ∀ w, (callFunc 84 #[.int .u64 ((wd s 0 : Nat) : Int)]).run Tryd.prog w = .ok (.value (.float .f64 (wd s (rdn 0)))) w := b2
    have i1 : (e : Int) < 1023 := by omega
    have i2 : ((e : Int) == 1022) = false := by simp; omega
    have i3 : ¬ (e : Int) = 1022 := by omega
    clear hO he hX h3
    go_enter Tryd.func63, Tryd.ntmps63
    go_wp2
    go_ret
    exact ⟨rfl, rfl⟩
  · by_cases c2 : e = 1022
    · rw [q_one (by omega)] at b2 ⊢
      have b2 : ∀ w, (callFunc 84 #[.int .u64 ((wd s 4607182418800017408 : Nat) : Int)]).run Tryd.prog w = .ok (.value (.float .f64 (wd s (rdn 1)))) w := by
        have : rdn 1 = 4607182418800017408 := by unfold rdn; rw [if_neg (by decide)]; decide
        rw [this] at b2 ⊢
        exact b2
      subst c2
      clear he hX h3 c1
      go_enter Tryd.func63, Tryd.ntmps63
      go_wp2
      go_ret
      exact ⟨rfl, rfl⟩
    · obtain ⟨F, hF⟩ : ∃ F, e + F = 1074 := ⟨1074 - e, by omega⟩
      obtain ⟨q1, q2, q3⟩ := bits_round (A := A) (F := F) (by omega) (by omega) (by omega)
      have i1 : ¬ (e : Int) < 1023 := by omega
      have i2 : (e : Int) < 1075 := by omega
      have hd : ∀ a b : Nat, b ≤ a → (2 : Nat) ^ a / 2 ^ b = 2 ^ (a - b) := fun a b h => Nat.pow_div h (by decide)
      have g1 : (2251799813685248 : Int) / 2 ^ (e - 1023) = ((2 ^ F : Nat) : Int) := by
        have h5 := hd 51 (e - 1023) (by omega)
        rw [show 51 - (e - 1023) = F by omega] at h5
        rw [← h5, show (2 : Nat) ^ 51 = 2251799813685248 by rfl, Int.natCast_ediv, Int.natCast_pow]
        rfl
      have g2 : (4503599627370495 : Int) / 2 ^ (e - 1023) = ((2 ^ (F + 1) - 1 : Nat) : Int) := by
        have h5 : (4503599627370495 : Nat) / 2 ^ (e - 1023) = 2 ^ (F + 1) - 1 := by
          have hk := Nat.two_pow_pos (e - 1023)
          have hF := Nat.two_pow_pos (F + 1)
          have h6 : 2 ^ (F + 1) * 2 ^ (e - 1023) = 4503599627370496 := by
            rw [← Nat.pow_add, show F + 1 + (e - 1023) = 52 by omega]
          rw [Nat.div_eq_iff hk]
          rw [Nat.sub_mul, h6]
          have h7 : 2 ^ (e - 1023) ≤ 4503599627370496 := by
            rw [← h6]
            exact Nat.le_mul_of_pos_left _ hF
          generalize 2 ^ (e - 1023) = k at *
          omega
        rw [← h5, Int.natCast_ediv, Int.natCast_pow]
        rfl
      have g3 : IntKind.u64.wrap ((X : Int) + ((2 ^ F : Nat) : Int)) = ((wd s (A + 2 ^ F) : Nat) : Int) := by
        have h5 : 2 ^ F ≤ 2 ^ 51 := Nat.pow_le_pow_right (by decide) (by omega)
        rw [show (2 : Nat) ^ 51 = 2251799813685248 by rfl] at h5
        have h6 : X + 2 ^ F = wd s (A + 2 ^ F) := by rw [← hX]; unfold wd; split <;> omega
        have h7 := wd_lt s (A := A + 2 ^ F) (by omega)
        rw [← h6] at h7 ⊢
        rw [IntKind.wrap_u64]
        generalize 2 ^ F = k at *
        omega
      have g4 := clear_bits s (A := A + 2 ^ F) (F := F + 1) (by
        have h5 : 2 ^ F ≤ 2 ^ 51 := Nat.pow_le_pow_right (by decide) (by omega)
        rw [show (2 : Nat) ^ 51 = 2251799813685248 by rfl] at h5
        omega) (by omega)
      have hr : rungN double (qN A) 0 = rdn (qN A) := by unfold rdn; rw [if_neg q1]
      rw [q3, hr] at g4
      have G1 := Lib.hid g1
      have G2 := Lib.hid g2
      have G3 := Lib.hid g3
      have G4 := Lib.hid g4
      clear g1 g2 g3 g4 hd
      go_enter Tryd.func63, Tryd.ntmps63
      go_upto_region 11 with (fail)
      rw [G1.out, G2.out, G3.out, G4.out]
      go_wp2
      go_ret
      exact ⟨rfl, rfl⟩

theorem wpList_max64 {P : Program} {ops : Array Oper} {rest : List Oper} {o : Oper} {a : Act} {w : World} {Q : Exit → Act → World → Prop} (hg : o.guard = none) (p q : Operand) (ts : Array TypeId)
    (ho : o.op = .call { callee := .builtin .max, args := #[p, q], argTypes := ts }) (x y u : Nat) (hx : a.eval p = .float .f64 x) (hy : a.eval q = .float .f64 y)
    (hm : ∀ (P : Program) (ts : Array TypeId) (t : TypeId) (w : World), (Builtin.max_ ts t #[.float .f64 x, .float .f64 y]).run P w = .ok (.float .f64 u) w)
    (h : wpList P ops Q rest (a.put o.dst (.float .f64 u)) w) : wpList P ops Q (o :: rest) a w :=
  wpList_plain hg fun K hK => by
    have hm := fun (tt : Array TypeId) (t : TypeId) => hm P tt t w
    unfold Oper.wp execOp
    simp only [ho]
    simp only [resolve, hx, hy, Sem.run_bind, Sem.run_pure, Result.andThen, invoke, List.map_toArray, List.map_cons, List.map_nil]
    simp [hm, go_sem]
    exact hK _ _ h
theorem wpList_min64 {P : Program} {ops : Array Oper} {rest : List Oper} {o : Oper} {a : Act} {w : World} {Q : Exit → Act → World → Prop} (hg : o.guard = none) (p q : Operand) (ts : Array TypeId)
    (ho : o.op = .call { callee := .builtin .min, args := #[p, q], argTypes := ts }) (x y u : Nat) (hx : a.eval p = .float .f64 x) (hy : a.eval q = .float .f64 y)
    (hm : ∀ (P : Program) (ts : Array TypeId) (t : TypeId) (w : World), (Builtin.min_ ts t #[.float .f64 x, .float .f64 y]).run P w = .ok (.float .f64 u) w)
    (h : wpList P ops Q rest (a.put o.dst (.float .f64 u)) w) : wpList P ops Q (o :: rest) a w :=
  wpList_plain hg fun K hK => by
    have hm := fun (tt : Array TypeId) (t : TypeId) => hm P tt t w
    unfold Oper.wp execOp
    simp only [ho]
    simp only [resolve, hx, hy, Sem.run_bind, Sem.run_pure, Result.andThen, invoke, List.map_toArray, List.map_cons, List.map_nil]
    simp [hm, go_sem]
    exact hK _ _ h
theorem q_lt {A : Nat} (h : A ≤ 4728779608739020800) : qN A < 9007199254740992 := by
  by_cases c1 : A / 4503599627370496 < 1022
  · rw [q_none c1]; decide
  · by_cases c2 : A / 4503599627370496 = 1022
    · rw [q_one c2]; decide
    · exact (bits_round (A := A) (F := 1074 - A / 4503599627370496) (by omega) (by omega) (by omega)).2.1

set_option maxRecDepth 100000 in
set_option maxHeartbeats 2000000 in
theorem loggedHead_any (h : Nat) (s : Bool) (R A : Nat) (h1 : (num .f32 h).map cv = some (wd s R)) (h2 : double.mul (wd s R) 4636737291354636288 = some (wd s A)) (h3 : A ≤ 4728779608739020800) (w : World) :
    Calls Tryd.prog 37 #[.float .f32 h] w fun e w' => e = .returned (.int .i16 (lgN s A)) ∧ Quiet w w' := by
  have hRn : nanK .f64 (wd s R) = false := by
    rw [nanK_read]
    cases hh : double.read (wd s R) with
    | number => show (double.read (wd s R)).isNaN = false; rw [hh]; rfl
    | infinity => show (double.read (wd s R)).isNaN = false; rw [hh]; rfl
    | nan => exfalso; unfold Format.mul at h2; rw [hh] at h2; cases hk : double.read 4636737291354636288 <;> rw [hk] at h2 <;> simp [Datum.product] at h2
  have HC := Lib.hid h1
  have HM := Lib.hid (show fop .f64 .mul (num .f64 (wd s R)) (num .f64 4636737291354636288) = some (wd s A) by rw [fop_num]; exact h2)
  have RA := Lib.hid (fun V => round_any s A h3 V)
  have hq := q_lt h3
  obtain ⟨n, hn⟩ : ∃ n, qN A = n := ⟨_, rfl⟩
  rw [hn] at RA hq
  have hq2 : (if s then min n 32768 else n) < 9007199254740992 := by split <;> omega
  have hi := toInt_rdn s (n := if s then min n 32768 else min n 32767) (by split <;> omega)
  have hlg : lgN s A = if s then -((min n 32768 : Nat) : Int) else ((min n 32767 : Nat) : Int) := by unfold lgN; rw [hn]
  have hmm : (if s then (if s then min n 32768 else n) else min (if s then min n 32768 else n) 32767) = (if s then min n 32768 else min n 32767) := by cases s <;> rfl
  have HI := Lib.hid (show floatToIntVal .f64 (wd s (rdn (if s then (if s then min n 32768 else n) else min (if s then min n 32768 else n) 32767))) .i16 = some (lgN s A) by
    rw [hmm]
    unfold floatToIntVal
    rw [show (FloatKind.f64.decode (wd s (rdn (if s then min n 32768 else min n 32767)))).toInt .zero = _ from hi]
    simp only []
    have : (if s = true then -(((if s = true then min n 32768 else min n 32767 : Nat)) : Int) else (((if s = true then min n 32768 else min n 32767 : Nat)) : Int)) = lgN s A := by
      rw [hlg]; cases s <;> rfl
    rw [this, if_pos]
    rw [hlg]
    show (-32768 : Int) ≤ _ ∧ _ ≤ (32767 : Int)
    split <;> omega)
  clear h1 h2 h3 hi hmm hlg hn
  generalize lgN s A = g at *
  generalize wd s A = x at *
  generalize wd s R = y at *
  go_enter Tryd.func37, Tryd.ntmps37
  go_wp2_with (first | (refine wpList_conv rfl _ _ _ rfl Tryd.underlying23 Tryd.underlying53 _ rfl ?_; intro x1 m1 hx1; rw [HC.out] at hx1; obtain rfl := (num_eq_some hx1).1; clear hx1) | (refine wpList_float rfl _ _ _ _ _ rfl rfl .f64 _ _ rfl rfl ?_; intro r1 n1 hr1; have hr2 := hr1.trans HM.out; obtain rfl := (num_eq_some hr2).1; clear hr1 hr2 HM) | (go_at_call 63; refine (RA.out _).mono ?_; rintro e V ⟨rfl, rfl⟩) | (refine wpList_max64 rfl _ _ _ rfl _ _ _ rfl rfl (fun P ts t w => max_rdn w ts t s hq) ?_) | (refine wpList_min64 rfl _ _ _ rfl _ _ _ rfl rfl (fun P ts t w => min_rdn w ts t s hq2) ?_) | (refine wpList_convD rfl _ _ _ .i16 rfl (by rw [Tryd.underlying53]; rfl) Tryd.underlying35 _ _ rfl HI.out ?_))
  all_goals (go_ret; exact ⟨rfl, _, rfl⟩)
end Go.Proofs.YtjhaonfdapldcaaDoor
