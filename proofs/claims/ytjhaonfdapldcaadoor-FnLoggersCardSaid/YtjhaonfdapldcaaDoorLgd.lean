/- What a logger keeps of a head: the model's, the program's. Condition: the head is plain. -/
import Derived.Test.YtjhaonfdapldcaaDoorRnc
import Derived.Test.YtjhaonfdapldcaaDoorPlain
namespace Go.Proofs.YtjhaonfdapldcaaDoor
open Go Go.RowKit Ieee
set_option linter.unusedSimpArgs false
set_option linter.unusedVariables false
attribute [local go_sem] Oper.semAt_some

theorem rd100 {K : Nat} (hK : K = 7036874417766400) : double.read 4636737291354636288 = .number false K (-46) := by subst hK; decide
theorem r20 : rungN double 1 20 = 4697254411347427328 := by decide
theorem v20d : val64 4697254411347427328 = 1 * 2 ^ ((20 : Int) + 1074).toNat := by rw [← r20]; exact rung_val (by decide) (by decide) (by decide)
theorem r27 : rungN double 1 27 = 4728779608739020800 := by decide
/-- A plain head, a hundred times, in double precision. -/
theorem hx_is {h : Nat} (hp : plainB h = true) : ∃ s R A, (num .f32 h).map cv = some (wd s R) ∧ double.mul 4636737291354636288 (wd s R) = some (wd s A) ∧ double.mul (wd s R) 4636737291354636288 = some (wd s A) ∧ A ≤ 4728779608739020800 := by
  obtain ⟨s, m, i, hr, hm, hi, hi2, hv⟩ := plain_read hp
  obtain ⟨Y, hY⟩ : ∃ Y : Nat, Y = 169 := ⟨_, rfl⟩
  rw [← hY] at hv
  have hn : nanK .f32 h = false := by
    rw [nanK_read]
    show (single.read h).isNaN = false
    rw [hr]; rfl
  obtain ⟨R, hR, hRl⟩ : ∃ R, cv h = wd s R ∧ R ≤ 4697254411347427328 := by
    show ∃ R, double.write (single.read h) = wd s R ∧ _
    rw [hr]
    simp only [Format.write]
    by_cases h0 : m = 0
    · rw [h0, near0]; exact ⟨0, rfl, by omega⟩
    · rw [near64 s h0]
      have := rungN_mono double (m1 := m) (m2 := 1) (p1 := i) (p2 := 20) (B := -1074) h0 (by decide) (by omega) (by omega) (by rw [lp64]; omega) (by
        obtain ⟨X, hX⟩ : ∃ X : Nat, X = 925 := ⟨_, rfl⟩
        have e1 : (i - (-1074)).toNat = (i + 149).toNat + X := by omega
        have e2 : ((20 : Int) - (-1074)).toNat = Y + X := by omega
        rw [Nat.one_mul, e1, e2, Nat.pow_add, Nat.pow_add, ← Nat.mul_assoc]
        exact Nat.mul_le_mul_right _ hv)
      rw [r20] at this
      exact ⟨_, rfl, by omega⟩
  obtain ⟨K, hK⟩ : ∃ K : Nat, K = 7036874417766400 := ⟨_, rfl⟩
  have hRf : R < 9218868437227405312 := by omega
  have pR := pl_ge R
  have hR2 := val64_le hRl
  rw [v20d, Nat.one_mul] at hR2
  have hA : ∃ A, double.nearest s (K * mtN R) (-46 + plN R) = wd s A ∧ A ≤ 4728779608739020800 := by
    by_cases h0 : mtN R = 0
    · rw [h0, Nat.mul_zero, near0]; exact ⟨0, rfl, by omega⟩
    · have hne : K * mtN R ≠ 0 := Nat.mul_ne_zero (by omega) h0
      rw [near64 s hne]
      have := rungN_mono double (m1 := K * mtN R) (m2 := 1) (p1 := -46 + plN R) (p2 := 27) (B := -1120) hne (by decide) (by omega) (by omega) (by rw [lp64]; omega) (by
        obtain ⟨X, hX⟩ : ∃ X : Nat, X = 53 := ⟨_, rfl⟩
        have hKX : K ≤ 2 ^ X := by rw [hK, hX]; decide
        have e1 : (-46 + plN R - (-1120)).toNat = (plN R + 1074).toNat := by omega
        have e2 : ((27 : Int) - (-1120)).toNat = X + ((20 : Int) + 1074).toNat := by omega
        rw [Nat.one_mul, e1, e2, Nat.mul_assoc, mt_val, Nat.pow_add]
        exact Nat.mul_le_mul hKX hR2)
      rw [r27] at this
      generalize rungN double (K * mtN R) (-46 + plN R) = a at this ⊢
      exact ⟨min a 9218868437227405312, rfl, by omega⟩
  obtain ⟨A, hA1, hA2⟩ := hA
  refine ⟨s, R, A, ?_, ?_, ?_, hA2⟩
  · rw [num_some hn]; exact congrArg some hR
  · unfold Format.mul
    rw [rd100 hK, read64 s hRf]
    simp only [Datum.product, Option.map_some, Bool.false_xor, Format.write]
    rw [hA1]
  · unfold Format.mul
    rw [rd100 hK, read64 s hRf]
    simp only [Datum.product, Option.map_some, Bool.xor_false, Format.write]
    rw [Nat.mul_comm, Int.add_comm, hA1]
theorem lg_pl {A : Nat} (h : A ≤ 4728779608739020800) : plN A ≤ 0 ∧ A < 9218868437227405312 ∧ whN A < 9007199254740992 := by
  refine ⟨?_, by omega, Nat.lt_of_le_of_lt (Nat.div_le_self _ _) (mt_lt A)⟩
  unfold plN
  split <;> omega
def sgI (s : Bool) (n : Nat) : Int := if s then -((n : Nat) : Int) else ((n : Nat) : Int)
theorem sgI_f (n : Nat) : sgI false n = (n : Int) := rfl
theorem sgI_t (n : Nat) : sgI true n = -(n : Int) := rfl
theorem toI64 (s : Bool) {A : Nat} (h : A ≤ 4728779608739020800) : floatToIntVal .f64 (wd s A) .i64 = some (sgI s (whN A)) := by
  obtain ⟨h1, h2, h3⟩ := lg_pl h
  have := toInt64 s h2 h1
  unfold floatToIntVal
  rw [show (FloatKind.f64.decode (wd s A)).toInt .zero = _ from this]
  simp only []
  rw [if_pos]
  · rfl
  · show -9223372036854775808 ≤ _ ∧ _ ≤ 9223372036854775807
    split <;> omega
/-- What the model makes of it. -/
theorem lg_cases (s : Bool) (A : Nat) : (s = false ∧ 32767 ≤ whN A → lgN s A = 32767) ∧ (s = true ∧ 32768 ≤ whN A → lgN s A = -32768) ∧
    (¬ (s = false ∧ 32767 ≤ whN A) → ¬ (s = true ∧ 32768 ≤ whN A) → lgN s A = sgI s (whN A + (if 2 ^ dgN A ≤ 2 * lfN A then 1 else 0)) ∧ -32768 ≤ lgN s A ∧ lgN s A ≤ 32767) := by
  unfold lgN qN
  generalize whN A = n
  refine ⟨?_, ?_, ?_⟩
  · rintro ⟨rfl, h⟩
    simp only [Bool.false_eq_true, if_false]
    omega
  · rintro ⟨rfl, h⟩
    simp only [if_true]
    omega
  · intro h1 h2
    cases s
    · simp only [Bool.false_eq_true, if_false, true_and] at h1 ⊢
      rw [sgI_f]
      split <;> omega
    · simp only [if_true, true_and] at h2 ⊢
      rw [sgI_t]
      split <;> omega
theorem wrap16_inL (n : Int) (h1 : -32768 ≤ n) (h2 : n ≤ 32767) : IntKind.i16.wrap n = n := by
  have : n = IntKind.i16.wrap n := by
    rcases Int.le_total 0 n with h | h
    · simp only [IntKind.wrap, IntKind.bits, IntKind.signed]
      have : n % 65536 = n := Int.emod_eq_of_lt h (by omega)
      simp [this]
      omega
    · simp only [IntKind.wrap, IntKind.bits, IntKind.signed]
      simp
      omega
  exact this.symm
theorem wpList_convD {P : Program} {ops : Array Oper} {rest : List Oper} {o : Oper} {a : Act} {w : World} {Q : Exit → Act → World → Prop} (hg : o.guard = none) (src dst : TypeId) (x : Operand) (k : IntKind)
    (ho : o.op = .convert src dst x) (hs : (P.underlying src).isSome = true) (hd : P.underlying dst = some (.int k)) (b : Nat) (n : Int) (hx : a.eval x = .float .f64 b) (hf : floatToIntVal .f64 b k = some n)
    (h : wpList P ops Q rest (a.put o.dst (.int k n)) w) : wpList P ops Q (o :: rest) a w :=
  wpList_plain hg fun K hK => by
    have hrun := run_convert_float_int (P := P) (w := w) src dst .f64 k b n hs hd hf
    unfold Oper.wp execOp
    simp only [ho, hx]
    simp only [Sem.run_bind, hrun, Result.andThen]
    exact hK _ _ h

set_option maxRecDepth 100000 in
set_option maxHeartbeats 2000000 in
theorem l07Logged_any (h : Nat) (s : Bool) (R A : Nat) (h1 : (num .f32 h).map cv = some (wd s R)) (h2 : double.mul 4636737291354636288 (wd s R) = some (wd s A)) (h3 : A ≤ 4728779608739020800) (w : World) :
    Calls Tryd.prog 35 #[.float .f32 h] w fun e w' => e = .returned (.int .i16 (lgN s A)) ∧ Quiet w w' := by
  obtain ⟨hp, hA, hw⟩ := lg_pl h3
  have hRn : nanK .f64 (wd s R) = false := by
    rw [nanK_read]
    cases hh : double.read (wd s R) with
    | number => show (double.read (wd s R)).isNaN = false; rw [hh]; rfl
    | infinity => show (double.read (wd s R)).isNaN = false; rw [hh]; rfl
    | nan => exfalso; unfold Format.mul at h2; rw [hh] at h2; cases hk : double.read 4636737291354636288 <;> rw [hk] at h2 <;> simp [Datum.product] at h2
  have HC := Lib.hid h1
  have HM := Lib.hid (show fop .f64 .mul (num .f64 4636737291354636288) (num .f64 (wd s R)) = some (wd s A) by rw [fop_num]; exact h2)
  have HI := Lib.hid (toI64 s h3)
  obtain ⟨t, T, hs, hT, hTv, htt⟩ := rest_is s hA hp
  have t1 := tst67 (s := s) hA hp
  have t2 := tst68 (s := s) hA hp
  obtain ⟨t3, t4⟩ := tst05 (s := s) (t := t) hp hT hTv htt
  obtain ⟨l1, l2, l3⟩ := lg_cases s A
  have HS := Lib.hid (show fop .f64 .sub (num .f64 (wd s A)) (num .f64 (floatOfInt .f64 (sgI s (whN A)))) = some (wd t T) by rw [fop_num]; exact hs)
  clear h1 h2 h3 hs hT hTv htt hRn hp hA
  generalize whN A = n at *
  generalize lgN s A = g at *
  generalize wd s A = x at *
  generalize wd t T = z at *
  generalize wd s R = y at *
  by_cases c1 : s = false ∧ 32767 ≤ n
  · rw [l1 c1]
    rw [show (!s && decide (32767 ≤ n)) = true by simp [c1]] at t1
    clear t2 t3 t4 l1 l2 l3 c1 HS HI
    go_enter Tryd.func35, Tryd.ntmps35
    go_wp2_with (first | (refine wpList_conv rfl _ _ _ rfl Tryd.underlying23 Tryd.underlying53 _ rfl ?_; intro x1 m1 hx1; rw [HC.out] at hx1; obtain rfl := (num_eq_some hx1).1; clear hx1) | (refine wpList_float rfl _ _ _ _ _ rfl rfl .f64 _ _ rfl rfl ?_; intro r1 n1 hr1; have hr2 := hr1.trans HM.out; obtain rfl := (num_eq_some hr2).1; clear hr1 hr2 HM))
    go_ret
    exact ⟨rfl, _, rfl⟩
  · rw [show (!s && decide (32767 ≤ n)) = false by cases s <;> simp at c1 ⊢ <;> omega] at t1
    by_cases c2 : s = true ∧ 32768 ≤ n
    · rw [l2 c2]
      rw [show (s && decide (32768 ≤ n)) = true by simp [c2]] at t2
      clear t3 t4 l1 l2 l3 c1 c2 HS HI
      go_enter Tryd.func35, Tryd.ntmps35
      go_wp2_with (first | (refine wpList_conv rfl _ _ _ rfl Tryd.underlying23 Tryd.underlying53 _ rfl ?_; intro x1 m1 hx1; rw [HC.out] at hx1; obtain rfl := (num_eq_some hx1).1; clear hx1) | (refine wpList_float rfl _ _ _ _ _ rfl rfl .f64 _ _ rfl rfl ?_; intro r1 n1 hr1; have hr2 := hr1.trans HM.out; obtain rfl := (num_eq_some hr2).1; clear hr1 hr2 HM))
      go_ret
      exact ⟨rfl, _, rfl⟩
    · rw [show (s && decide (32768 ≤ n)) = false by cases s <;> simp at c2 ⊢ <;> omega] at t2
      obtain ⟨l4, l5, l6⟩ := l3 c1 c2
      have hn1 : n ≤ 32768 := by cases s <;> simp at c1 c2 <;> omega
      clear l1 l2 l3
      by_cases c3 : 2 ^ dgN A ≤ 2 * lfN A
      · rw [if_pos c3] at l4
        rw [decide_eq_true c3, Bool.and_true] at t3 t4
        clear c3
        cases s
        · rw [sgI_f] at l4 HI HS
          have hw := wrap16_inL ((n : Int) + 1) (by omega) (by omega)
          have l7 : g = (n : Int) + 1 := l4
          simp only [Bool.not_false] at t3
          rw [l7]
          clear l4 l5 l6 l7 c1 c2
          go_enter Tryd.func35, Tryd.ntmps35
          go_wp2_with (first | (refine wpList_conv rfl _ _ _ rfl Tryd.underlying23 Tryd.underlying53 _ rfl ?_; intro x1 m1 hx1; rw [HC.out] at hx1; obtain rfl := (num_eq_some hx1).1; clear hx1) | (refine wpList_float rfl _ _ _ _ _ rfl rfl .f64 _ _ rfl rfl ?_; intro r1 n1 hr1; have hr2 := hr1.trans HM.out; obtain rfl := (num_eq_some hr2).1; clear hr1 hr2 HM) | (refine wpList_float rfl _ _ _ _ _ rfl rfl .f64 _ _ rfl rfl ?_; intro r3 n3 hr3; have hr4 := hr3.trans HS.out; obtain rfl := (num_eq_some hr4).1; clear hr3 hr4) | (refine wpList_convD rfl _ _ _ .i64 rfl (by rw [Tryd.underlying53]; rfl) Tryd.underlying2 _ _ rfl HI.out ?_))
          go_ret
          exact ⟨by first | rfl | rw [hw], _, rfl⟩
        · rw [sgI_t] at l4 HI HS
          have hw := wrap16_inL (-(n : Int) - 1) (by omega) (by omega)
          have l7 : g = -(n : Int) - 1 := by rw [l4]; push_cast; omega
          simp only [Bool.not_true] at t3
          rw [l7]
          clear l4 l5 l6 l7 c1 c2
          go_enter Tryd.func35, Tryd.ntmps35
          go_wp2_with (first | (refine wpList_conv rfl _ _ _ rfl Tryd.underlying23 Tryd.underlying53 _ rfl ?_; intro x1 m1 hx1; rw [HC.out] at hx1; obtain rfl := (num_eq_some hx1).1; clear hx1) | (refine wpList_float rfl _ _ _ _ _ rfl rfl .f64 _ _ rfl rfl ?_; intro r1 n1 hr1; have hr2 := hr1.trans HM.out; obtain rfl := (num_eq_some hr2).1; clear hr1 hr2 HM) | (refine wpList_float rfl _ _ _ _ _ rfl rfl .f64 _ _ rfl rfl ?_; intro r3 n3 hr3; have hr4 := hr3.trans HS.out; obtain rfl := (num_eq_some hr4).1; clear hr3 hr4) | (refine wpList_convD rfl _ _ _ .i64 rfl (by rw [Tryd.underlying53]; rfl) Tryd.underlying2 _ _ rfl HI.out ?_))
          go_ret
          exact ⟨by first | rfl | rw [hw], _, rfl⟩
      · rw [if_neg c3, Nat.add_zero] at l4
        rw [decide_eq_false c3, Bool.and_false] at t3 t4
        have hw := wrap16_inL (sgI s n) (by rw [← l4]; exact l5) (by rw [← l4]; exact l6)
        rw [l4]
        clear c3 l4 l5 l6 c1 c2
        generalize sgI s n = q at *
        go_enter Tryd.func35, Tryd.ntmps35
        go_wp2_with (first | (refine wpList_conv rfl _ _ _ rfl Tryd.underlying23 Tryd.underlying53 _ rfl ?_; intro x1 m1 hx1; rw [HC.out] at hx1; obtain rfl := (num_eq_some hx1).1; clear hx1) | (refine wpList_float rfl _ _ _ _ _ rfl rfl .f64 _ _ rfl rfl ?_; intro r1 n1 hr1; have hr2 := hr1.trans HM.out; obtain rfl := (num_eq_some hr2).1; clear hr1 hr2 HM) | (refine wpList_float rfl _ _ _ _ _ rfl rfl .f64 _ _ rfl rfl ?_; intro r3 n3 hr3; have hr4 := hr3.trans HS.out; obtain rfl := (num_eq_some hr4).1; clear hr3 hr4) | (refine wpList_convD rfl _ _ _ .i64 rfl (by rw [Tryd.underlying53]; rfl) Tryd.underlying2 _ _ rfl HI.out ?_))
        go_ret
        exact ⟨by first | rfl | rw [hw], _, rfl⟩
end Go.Proofs.YtjhaonfdapldcaaDoor
