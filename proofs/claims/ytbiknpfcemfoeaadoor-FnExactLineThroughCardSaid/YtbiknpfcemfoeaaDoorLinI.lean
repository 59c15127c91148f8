/- The line through readings, the program's. Condition: the sentinels lie where they are laid. -/
import Derived.Test.YtbiknpfcemfoeaaDoorLinS
namespace Go.Proofs.YtbiknpfcemfoeaaDoor
open Go Go.RowKit Ieee
set_option linter.unusedSimpArgs false
set_option linter.unusedVariables false
attribute [local go_sem] run_store_f32

theorem max_read : single.read 2139095039 = .number false 16777215 104 := by decide +kernel
theorem le_max (t : Bool) (m : Nat) (i : Int) (h1 : m < 16777216) (h3 : i ≤ 104) : (Datum.order (.number t m i) (.number false 16777215 104) == some Ordering.lt || Datum.order (.number t m i) (.number false 16777215 104) == some Ordering.eq) = true := by
  have e2 : min i (104 : Int) = i := by omega
  have e3 : (i - i).toNat = 0 := by omega
  obtain ⟨j, hj⟩ : ∃ j : Nat, (104 - i).toNat = j := ⟨_, rfl⟩
  have hq : 1 ≤ 2 ^ j := Nat.two_pow_pos j
  have hm : m ≤ 16777215 * 2 ^ j := by
    calc m ≤ 16777215 * 1 := by omega
      _ ≤ 16777215 * 2 ^ j := Nat.mul_le_mul_left _ hq
  have hle : signed t m 0 ≤ signed false 16777215 j := by
    have h0 : m <<< 0 ≤ 16777215 <<< j := by rw [Nat.shiftLeft_eq, Nat.shiftLeft_eq]; omega
    generalize hx : m <<< 0 = x at h0
    generalize hy : 16777215 <<< j = y at h0
    unfold signed
    rw [hx, hy]
    cases t
    · show (x : Int) ≤ (y : Int)
      omega
    · show -(x : Int) ≤ (y : Int)
      omega
  simp only [Datum.order, e2, e3, hj]
  generalize signed t m 0 = x at hle
  generalize signed false 16777215 j = y at hle
  rcases Int.lt_or_eq_of_le hle with h | h
  · simp [compare, compareOfLessAndEq, h]
  · simp [compare, compareOfLessAndEq, h]

theorem absN_read (b : Nat) : single.read (absN b) = match single.read b with
    | .number _ m i => .number false m i
    | .infinity _ => .infinity false
    | .nan _ f => .nan false f := by
  have e1 : b % 2147483648 / 2147483648 % 2 = 0 := by omega
  have e2 : b % 2147483648 % 2147483648 = b % 2147483648 := by omega
  unfold Format.read absN
  simp only [s1, s2, s3, s4, e1, e2]
  split
  · rfl
  · split
    · rfl
    · split <;> rfl
theorem size_le {b r : Nat} (h : num .f32 r = sizeO (num .f32 b)) : (FloatKind.f32.format.order r 2139095039 == some Ordering.lt || FloatKind.f32.format.order r 2139095039 == some Ordering.eq) = finB b := by
  show ((single.read r).order (single.read 2139095039) == some Ordering.lt || (single.read r).order (single.read 2139095039) == some Ordering.eq) = finB b
  rw [max_read]
  cases hb : nanK .f32 b
  · rw [num_some hb] at h
    obtain ⟨rfl, _⟩ := num_eq_some (b := absN b) h
    rw [absN_read]
    unfold finB
    cases h : single.read b with
    | number s m i =>
      obtain ⟨h1, _, h3⟩ := single_number h
      exact le_max false m i h1 h3
    | infinity s => rfl
    | nan s f => rfl
  · rw [num_none hb] at h
    have hn := num_eq_none (k := .f32) (a := r) h
    rw [nanK_read] at hn hb
    have hf : FloatKind.f32.format = single := rfl
    rw [hf] at hn hb
    unfold finB
    cases h1 : single.read r <;> cases h2 : single.read b <;> simp [h1, h2, Datum.isNaN] at hn hb ⊢
    simp [Datum.order]

theorem isFinite_any (b : Nat) (w : World) : Calls Tryd.prog 53 #[.float .f32 b] w fun e w' => e = .returned (.bool (finB b)) ∧ Quiet w w' := by
  go_enter Tryd.func53, Tryd.ntmps53
  go_wp2_with (go_at_call 76; refine (sizeOf_any b _).mono ?_; rintro e w' ⟨r, rfl, hr, hq⟩; have hs := Lib.hid (size_le hr); clear hr)
  go_ret
  exact ⟨ret_bool hs.out, hq⟩

set_option maxRecDepth 100000 in
set_option maxHeartbeats 4000000 in
theorem lnTime_any (t l : Int) (ht : 1 ≤ t ∧ t ≤ 100000) (w : World) : Calls Tryd.prog 86 #[.agg (Rd t l)] w (GvB (lnV (floatOfInt .f32 t)) w) := by
  have TL := fun V => logarithm_any (floatOfInt .f32 t) (ln_rng _ ht).1 (ln_rng _ ht).2 V
  have BA := Lib.hid (show Below w.heap.size w (w.alloc (.cells #[.int .i64 t, .int .i16 l] 65)) from (Below.refl _ _).alloc (Nat.le_refl _) _)
  simp only [Rd]
  go_enter Tryd.func86, Tryd.ntmps86
  go_wp2_with (go_at_call 103; refine (TL _).mono ?_; rintro x1 V2 ⟨x, rfl, hx, hq2⟩; have HX := Lib.hid hx; have Q2 := Lib.hid (BA.out.trans (hq2.mono BA.out.size)); clear hq2 hx)
  go_ret
  exact ⟨_, rfl, HX.out, Q2.out⟩
/-- The four terms of a reading. -/
def TmV (e : R2) (v : Ending) : Prop := ∃ a b c d : Nat, v = .returned (.agg #[.float .f32 a, .float .f32 b, .float .f32 c, .float .f32 d]) ∧ num .f32 a = tmO e 0 ∧ num .f32 b = tmO e 1 ∧ num .f32 c = tmO e 2 ∧ num .f32 d = tmO e 3
theorem lnV_ex (b : Nat) : ∃ r, num .f32 r = lnV b := by
  unfold lnV lnW
  exact fop_any _ rfl _ _
set_option maxRecDepth 100000 in
set_option maxHeartbeats 4000000 in
theorem terms_any (e : R2) (ht : 1 ≤ e.1 ∧ e.1 ≤ 100000) (w : World) : Calls Tryd.prog 75 #[.agg (Rd e.1 e.2)] w fun v w' => TmV e v ∧ Below w.heap.size w w' := by
  obtain ⟨z, b0, b1, B0⟩ := laid2 w (.cells (Rd e.1 e.2) 65) (.cells #[.float .f32 0, .float .f32 0, .float .f32 0, .float .f32 0] 99)
  have S0 := Lib.hid (sat_new (w.alloc (.cells (Rd e.1 e.2) 65)) 99 0 0 0 0)
  obtain ⟨W, hW⟩ : ∃ W, (w.alloc (.cells (Rd e.1 e.2) 65) |>.alloc (.cells #[.float .f32 0, .float .f32 0, .float .f32 0, .float .f32 0] 99)) = W := ⟨_, rfl⟩
  rw [hW] at z b0 b1 B0 S0
  have BW := Lib.hid B0
  have r0 := rangeAt_row b0
  have ZW := Lib.hid z
  have hsz : (w.alloc (.cells (Rd e.1 e.2) 65)).heap.size = w.heap.size + 1 := by simp
  rw [hsz] at S0
  clear b0 b1 B0 hsz
  go_enter Tryd.func75, Tryd.ntmps75
  go_upto_region 1 with (fail)
  try rw [hW]
  clear hW
  refine wp_region_calm (ops' := regOf Tryd.f75 1) [0, 1, 2, 3, 4, 5] [] .fin (Below (W.heap.size) W) [(0, One (.agg (Rd e.1 e.2))), (1, Numv .f32 (lnV (floatOfInt .f32 e.1))), (2, One (.agg (Rd e.1 e.2))), (3, Numv .f32 (lvV e.2)), (4, Numv .f32 (lnV (floatOfInt .f32 e.1))), (5, Numv .f32 (lvV e.2))] (by kernel_rfl) (by kernel_rfl) (by kernel_rfl) (by kernel_rfl) (by kernel_rfl) (by kernel_rfl) (by kernel_rfl) (by kernel_rfl) rfl ((Below.refl _ _).drew) ?_
  refine calm_load (some 5) 65 (.tmp 1) (w.heap.size) 0 _ (by kernel_rfl) (by kernel_rfl) (by kernel_rfl) (by kernel_rfl) (by kernel_rfl) (range_kept r0 (by omega)) Tryd.underlying65 rfl (by kernel_rfl) ?_
  refine calm_call (some 6) 86 #[.agg (Rd e.1 e.2)] (numv_ne (lnV_ex _)) (by kernel_rfl) (by kernel_rfl) (by kernel_rfl) (fun _ => by kernel_rfl) (fun w' hw' => (lnTime_any e.1 e.2 ht w').mono fun e w2 ⟨r, he, hr, hq⟩ => ⟨_, he, ⟨r, rfl, hr⟩, below_step hw' hq (by have := hw'.size; omega)⟩) ?_
  rintro _ ⟨d0, rfl, hd0⟩
  refine calm_load (some 7) 65 (.tmp 1) (w.heap.size) 0 _ (by kernel_rfl) (by kernel_rfl) (by kernel_rfl) (by kernel_rfl) (by kernel_rfl) (range_kept r0 (by omega)) Tryd.underlying65 rfl (by kernel_rfl) ?_
  refine calm_call (some 8) 87 #[.agg (Rd e.1 e.2)] (numv_ne (lvV_ex _)) (by kernel_rfl) (by kernel_rfl) (by kernel_rfl) (fun _ => by kernel_rfl) (fun w' hw' => (implLevel_any e.1 e.2 w').mono fun e w2 ⟨r, he, hr, hq⟩ => ⟨_, he, ⟨r, rfl, hr⟩, below_step hw' hq (by have := hw'.size; omega)⟩) ?_
  rintro _ ⟨d1, rfl, hd1⟩
  refine calm_pureV (some 3) (.float .f32 d0) ⟨_, rfl, hd0⟩ (by kernel_rfl) (by kernel_rfl) (by kernel_rfl) (fun _ => by kernel_rfl) ?_
  rintro _ ⟨r3, rfl, hr3⟩
  refine calm_pureV (some 4) (.float .f32 d1) ⟨_, rfl, hd1⟩ (by kernel_rfl) (by kernel_rfl) (by kernel_rfl) (fun _ => by kernel_rfl) ?_
  rintro _ ⟨r4, rfl, hr4⟩
  refine calm_end fun w' hw' => plan_end (Clean.normal ?_)
  have HW := Lib.hid hw'
  have SW := Lib.hid (S0.out.keep hw')
  have HA := Lib.hid hr3
  have HB := Lib.hid hr4
  clear hw' hd0 hd1 hr3 hr4 r0 z
  simp only [Act.put, List.setIfInBounds_toArray, List.set_cons_zero, List.set_cons_succ]
  have f1 : True := trivial
  have f2 : True := trivial
  go_wp2_with (first | (have _t := f1; refine wpList_float rfl _ _ _ _ _ rfl rfl .f32 _ _ rfl rfl ?_; intro z1 n1 hz; have Z1 := Lib.hid hz; clear f1 hz) | (have _t := f2; refine wpList_float rfl _ _ _ _ _ rfl rfl .f32 _ _ rfl rfl ?_; intro z2 n2 hz; have Z2 := Lib.hid hz; clear f2 hz) | (refine wpList_store_mid rfl 99 _ _ rfl (w.heap.size + 1) 0 #[.float .f32 r3, .float .f32 r4, .float .f32 z1, .float .f32 z2] rfl rfl (there_keep SW.out.1 SW.out.lt (belowN (Below.refl _ _) (n1 + n2))) (by kernel_rfl) (s4_one r3 r4 z1 z2) ?_; obtain ⟨V4, hV4⟩ : ∃ V4, (w'.drewN (n1 + n2)).setCells (w.heap.size + 1) 0 [.float .f32 r3, .float .f32 r4, .float .f32 z1, .float .f32 z2] = V4 := ⟨_, rfl⟩; try rw [hV4]; have HV4 := Lib.hid hV4; clear hV4))
  have ST := Lib.hid (World.rangeAt_setCells_same (w'.drewN (n1 + n2)) (w.heap.size + 1) 0 [.float .f32 r3, .float .f32 r4, .float .f32 z1, .float .f32 z2] (there_keep SW.out.1 SW.out.lt (belowN (Below.refl _ _) (n1 + n2))))
  rw [HV4.out] at ST
  refine bodyPost_ret (results_agg1 (p := 2) (ty := 99) rfl _ _ (w.heap.size + 1) #[.float .f32 r3, .float .f32 r4, .float .f32 z1, .float .f32 z2] rfl ST.out Tryd.underlying99 rfl (by kernel_rfl)) rfl ?_
  refine ⟨⟨r3, r4, z1, z2, rfl, HA.out, HB.out, ?_, ?_⟩, ?_⟩
  · rw [Z1.out, HA.out]; rfl
  · rw [Z2.out, HA.out, HB.out]; rfl
  · rw [← HV4.out]
    exact below_setCells _ (by omega) _ _ _ (belowN (BW.out.trans (HW.out.mono BW.out.size)) _)
end Go.Proofs.YtbiknpfcemfoeaaDoor
