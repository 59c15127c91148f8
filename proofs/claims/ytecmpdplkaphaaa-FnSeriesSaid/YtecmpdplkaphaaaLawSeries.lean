/- The law FnSeries of this commit: for every input the call returns true, and each argument reads afterwards as it read before. Condition: none. -/
import Derived.Test.YtecmpdplkaphaaaSerE
import Derived.Test.YtecmpdplkaphaaaDraw
import Derived.Test.YtecmpdplkaphaaaBytes
import Derived.Test.YtecmpdplkaphaaaSws
namespace Go.Proofs.Ytecmpdplkaphaaa
open Go Go.ChangeShapes Go.WideShapes Go.ChangeAt Go.RowKit Go.Deep Ieee
set_option linter.unusedSimpArgs false
set_option linter.unusedVariables false

theorem sameN_num {a b : Nat} (h : num .f32 a = num .f32 b) : sameN a b = true := by
  have e : ∀ x, nanW x = nanK .f32 x := fun x => rfl
  cases ha : nanK .f32 a
  · rw [num_some ha] at h
    obtain ⟨hb, hc⟩ := num_eq_some h.symm
    subst hb
    simp [sameN, e, ha]
  · have hb := num_eq_none (h.symm.trans (num_none ha))
    simp [sameN, e, ha, hb]

theorem lnTwo_call (V : World) : Calls Try.prog 6 #[.float .f32 1073741824] V fun e w' => e = .returned (.tuple #[.float .f32 c2, .int .i64 0]) ∧ Below V.heap.size V w' := by
  have h := implLnOf_any 1073741824 (by decide) V
  rw [lnTwo] at h
  refine h.mono ?_
  rintro e w' ⟨r, rfl, hr, hB⟩
  rw [(num_eq_some hr).1]
  exact ⟨rfl, hB⟩
theorem lnPw_call (i : Nat) (hi : i < 121) (V : World) : Calls Try.prog 6 #[.float .f32 (pwK i)] V fun e w' => e = .returned (.tuple #[.float .f32 (lvK i), .int .i64 0]) ∧ Below V.heap.size V w' := by
  have h := implLnOf_any (pwK i) (by unfold pwK; omega) V
  rw [(pw_ok i hi).1] at h
  refine h.mono ?_
  rintro e w' ⟨r, rfl, hr, hB⟩
  rw [(num_eq_some hr).1]
  exact ⟨rfl, hB⟩
theorem exZero_call (V : World) : Calls Try.prog 7 #[.float .f32 0] V fun e w' => e = .returned (.tuple #[.float .f32 1065353216, .int .i64 0]) ∧ Below V.heap.size V w' := by
  have h := implExpDown_any 0 (by decide) V
  rw [exZero] at h
  refine h.mono ?_
  rintro e w' ⟨r, rfl, hr, hB⟩
  rw [(num_eq_some hr).1]
  exact ⟨rfl, hB⟩
theorem uLnI (i : Nat) (hi : i < 5000) (V : World) : Calls Try.prog 6 #[.float .f32 (uK i)] V fun e w' => ∃ r, e = .returned (.tuple #[.float .f32 r, .int .i64 0]) ∧ num .f32 r = lnV (uK i) ∧ Below V.heap.size V w' := by
  have h := implLnOf_any (uK i) (uk_ok i hi).2.2.2.2 V
  rw [show lnoV (uK i) = (lnV (uK i), 0) by simp [lnoV, (uk_ok i hi).2.1]] at h
  exact h
theorem uLnS (i : Nat) (hi : i < 5000) (V : World) : Calls Try.prog 8 #[.float .f32 (uK i)] V fun e w' => ∃ r, e = .returned (.tuple #[.float .f32 r, .int .i64 0]) ∧ num .f32 r = lnV (uK i) ∧ Below V.heap.size V w' := by
  have h := specLnOf_any (uK i) (uk_ok i hi).2.2.2.2 V
  rw [show lnoV (uK i) = (lnV (uK i), 0) by simp [lnoV, (uk_ok i hi).2.1]] at h
  exact h
theorem uExI (i : Nat) (hi : i < 5000) (V : World) : Calls Try.prog 7 #[.float .f32 (uK i)] V fun e w' => e = .returned (.tuple #[.float .f32 (eK i), .int .i64 0]) ∧ Below V.heap.size V w' := by
  have h := implExpDown_any (uK i) (uk_ok i hi).2.2.2.2 V
  rw [show exoV (uK i) = (expV (uK i), 0) by simp [exoV, (uk_ok i hi).2.2.1]] at h
  refine h.mono ?_
  rintro e w' ⟨r, rfl, hr, hB⟩
  rw [(num_eq_some (hr.trans (ek_ok i hi).1)).1]
  exact ⟨rfl, hB⟩
theorem uExS (i : Nat) (hi : i < 5000) (V : World) : Calls Try.prog 9 #[.float .f32 (uK i)] V fun e w' => e = .returned (.tuple #[.float .f32 (eK i), .int .i64 0]) ∧ Below V.heap.size V w' := by
  have h := specExpDown_any (uK i) (uk_ok i hi).2.2.2.2 V
  rw [show exoV (uK i) = (expV (uK i), 0) by simp [exoV, (uk_ok i hi).2.2.1]] at h
  refine h.mono ?_
  rintro e w' ⟨r, rfl, hr, hB⟩
  rw [(num_eq_some (hr.trans (ek_ok i hi).1)).1]
  exact ⟨rfl, hB⟩
theorem uWfI (i : Nat) (hi : i < 5000) (V : World) : Calls Try.prog 10 #[.float .f32 (uK i)] V fun e w' => ∃ r, e = .returned (.tuple #[.float .f32 r, .int .i64 0]) ∧ num .f32 r = wellV (uK i) ∧ Below V.heap.size V w' := by
  have h := implWellFunction_any (uK i) (uk_ok i hi).2.2.2.2 V
  rw [show wfoV (uK i) = (wellV (uK i), 0) by simp [wfoV, (uk_ok i hi).2.2.2.1]] at h
  exact h
theorem uWfS (i : Nat) (hi : i < 5000) (V : World) : Calls Try.prog 11 #[.float .f32 (uK i)] V fun e w' => ∃ r, e = .returned (.tuple #[.float .f32 r, .int .i64 0]) ∧ num .f32 r = wellV (uK i) ∧ Below V.heap.size V w' := by
  have h := specWellFunction_any (uK i) (uk_ok i hi).2.2.2.2 V
  rw [show wfoV (uK i) = (wellV (uK i), 0) by simp [wfoV, (uk_ok i hi).2.2.2.1]] at h
  exact h

set_option maxRecDepth 100000 in
set_option maxHeartbeats 1000000 in
theorem fnSeries_near (p q : Option Addr) (n c m d : Nat) (hn : n ≤ 4096) (hm : m ≤ 4096) (w : World) (hp : BytesAt w w.heap.size p n) (hq : BytesAt w w.heap.size q m) :
    Calls Try.prog 3 #[.slice p n c, .slice q m d] w fun e w' => e = .returned (.bool true) ∧ Below w.heap.size w w' := by
  have hxn : n ≤ maxLen := by unfold maxLen; omega
  have hxm : m ≤ maxLen := by unfold maxLen; omega
  have F1 := fun V => f6big_any p n c hxn V
  have F2 := fun V => f6big_any q m d hxm V
  rw [show decide ((4096 : Int) < n) = false by simp; omega] at F1
  rw [show decide ((4096 : Int) < m) = false by simp; omega] at F2
  have HP := Lib.hid hp
  have HQ := Lib.hid hq
  have HN := Lib.hid hxn
  have HM := Lib.hid hxm
  clear hp hq hxn hxm hn hm
  have t1 : True := trivial
  go_enter Try.func3, Try.ntmps3
  go_upto_region 4 with (first
    | (have _t := t1; go_at_call 4; refine (F1 _).mono ?_; rintro e V ⟨rfl, hV⟩; rw [hV]; clear hV t1)
    | (go_at_call 4; refine (F2 _).mono ?_; rintro e V ⟨rfl, hV⟩; rw [hV]; clear hV)
    | (go_at_call 5; refine (P6Pick_any p n c 121 HN.out (by omega) (by omega) _ HP.out).mono ?_; rintro e V1 ⟨⟨i, hi, rfl⟩, hB1⟩; have Q1 := Lib.hid hB1; clear hB1))
  clear F1 F2
  obtain ⟨K, eK⟩ : ∃ K : Int, (i : Int) - 60 = K := ⟨_, rfl⟩
  have hK : -60 ≤ K ∧ K ≤ 60 := by omega
  obtain ⟨x1, hx1⟩ : ∃ x : Nat, 1065353216 = x := ⟨_, rfl⟩
  simp only [eK]
  have HX := Lib.hid (show 1065353216 + K.toNat * 8388608 - (-K).toNat * 8388608 = pwK i by unfold pwK; omega)
  have HI := Lib.hid hi
  have HK := Lib.hid eK
  clear hi eK hx1 x1
  go_wp2
  go_loopw [6, 7] (fun x n wr => ∃ j : Nat, j ≤ K.toNat ∧ n = .int .i64 (j : Int) ∧ x = .float .f32 (1065353216 + j * 8388608) ∧ Hid (Below w.heap.size w wr)) (fun _ n _ => K.toNat - (intOf n).toNat)
  case atStart => exact ⟨0, by omega, rfl, rfl, Q1⟩
  case round =>
    obtain ⟨j, hj, rfl, rfl, hB⟩ := hrel
    by_cases hlt : (j : Int) < K
    · have F := Lib.hid (show fop .f32 .mul (num .f32 1073741824) (num .f32 (1065353216 + j * 8388608)) = some (1065353216 + (j + 1) * 8388608) by
        rw [mul_comm32, twice_fop (by omega) (by omega)]
        exact congrArg some (by omega))
      obtain ⟨X, eX⟩ : ∃ X, 1065353216 + j * 8388608 = X := ⟨_, rfl⟩
      obtain ⟨Y, eY⟩ : ∃ Y, 1065353216 + (j + 1) * 8388608 = Y := ⟨_, rfl⟩
      simp only [eX, eY] at F ⊢
      go_wp2_with (refine wpList_floatD rfl _ _ _ _ _ rfl rfl .f32 _ _ _ rfl rfl F.out ?_)
      go_roundw
      case rel => exact ⟨j + 1, by omega, by go_num, by rw [eY], hB⟩
      case measure => simp [intOf]; omega
    · obtain rfl : j = K.toNat := by omega
      obtain ⟨X0, eX0⟩ : ∃ X, 1065353216 + K.toNat * 8388608 = X := ⟨_, rfl⟩
      simp only [eX0]
      go_wp2
      go_loopw [6, 8] (fun x n wr => ∃ j : Nat, j ≤ (-K).toNat ∧ n = .int .i64 (K + (j : Int)) ∧ x = .float .f32 (X0 - j * 8388608) ∧ Hid (Below w.heap.size w wr)) (fun _ n _ => (-(intOf n)).toNat)
      case atStart => exact ⟨0, by omega, by go_num, by simp, hB⟩
      case round =>
        obtain ⟨j, hj, rfl, rfl, hB2⟩ := hrel
        by_cases hlt2 : K + (j : Int) < 0
        · have F := Lib.hid (show fop .f32 .quo (num .f32 (X0 - j * 8388608)) (num .f32 1073741824) = some (X0 - (j + 1) * 8388608) by
            rw [half_fop (by omega) (by omega)]
            exact congrArg some (by omega))
          obtain ⟨X, eX⟩ : ∃ X, X0 - j * 8388608 = X := ⟨_, rfl⟩
          obtain ⟨Y, eY⟩ : ∃ Y, X0 - (j + 1) * 8388608 = Y := ⟨_, rfl⟩
          simp only [eX, eY] at F ⊢
          go_wp2_with (refine wpList_floatD rfl _ _ _ _ _ rfl rfl .f32 _ _ _ rfl rfl F.out ?_)
          go_roundw
          case rel => exact ⟨j + 1, by omega, by go_num, by rw [eY], hB2⟩
          case measure => simp [intOf]; omega
        · obtain rfl : j = (-K).toNat := by omega
          have hX := HX.out
          rw [eX0] at hX
          simp only [hX]
          have C1 := Lib.hid lnTwo_call
          have C2 := Lib.hid (lnPw_call i HI.out)
          have C3 := Lib.hid exZero_call
          have hpw := pw_ok i HI.out
          have FM := Lib.hid hpw.2.1
          rw [HK.out] at FM
          have FO := hpw.2.2
          obtain ⟨C, eC⟩ : ∃ C, c2 = C := ⟨_, rfl⟩
          obtain ⟨LV, eL⟩ : ∃ L, lvK i = L := ⟨_, rfl⟩
          obtain ⟨PW, eP⟩ : ∃ L, pwK i = L := ⟨_, rfl⟩
          simp only [eC, eL, eP] at C1 C2 FM FO ⊢
          have O1 : FloatKind.f32.format.order 1065353216 1065353216 = some Ordering.eq := by decide +kernel
          clear hX HX hpw eC eL eP eX0
          go_upto_region 14 with (go_at_call 6; refine (C1.out _).mono ?_; rintro e V2 ⟨rfl, hB2'⟩; have Q2 := Lib.hid (hB2.out.trans (hB2'.mono hB2.out.size)); clear hB2' C1)
          go_upto_region 15 with (go_at_call 6; refine (C2.out _).mono ?_; rintro e V3 ⟨rfl, hB3'⟩; have Q3 := Lib.hid (Q2.out.trans (hB3'.mono Q2.out.size)); clear hB3' C2)
          go_upto_region 16 with (go_at_call 7; refine (C3.out _).mono ?_; rintro e V4 ⟨rfl, hB4'⟩; have Q4 := Lib.hid (Q3.out.trans (hB4'.mono Q3.out.size)); clear hB4' C3)
          have t2 : True := trivial
          have FM2 := FM.out
          rw [fop_num] at FM2
          have hrun := fun V => run_float_arith (P := Try.prog) V .mul 25 .f32 _ _ _ FM2
          clear FM2
          go_upto_region 18 with (fail)
          clear FO O1 FM hrun
          have HQ4 := Lib.hid (HQ.out.at' Q4.out)
          go_upto_region 19 with (first
            | (go_at_call 5; refine (P6Pick_any q m d 5000 HM.out (by omega) (by omega) _ HQ4.out).mono ?_; rintro e V5 ⟨⟨k, hk, rfl⟩, hB5⟩; have Q5 := Lib.hid (Q4.out.trans (hB5.mono Q4.out.size)); have FU := Lib.hid (uk_ok k hk).1; clear hB5)
            | (refine wpList_floatD rfl _ _ _ _ _ rfl rfl .f32 _ _ _ rfl rfl FU.out ?_))
          have U1 := Lib.hid (uLnI k hk)
          have U2 := Lib.hid (uLnS k hk)
          have U3 := Lib.hid (uExI k hk)
          have U4 := Lib.hid (uExS k hk)
          have U5 := Lib.hid (uWfI k hk)
          have U6 := Lib.hid (uWfS k hk)
          have hE1 := (ek_ok k hk).2.1
          have hE2 := (ek_ok k hk).2.2
          obtain ⟨U, eU⟩ : ∃ L, uK k = L := ⟨_, rfl⟩
          obtain ⟨E, eE⟩ : ∃ L, eK k = L := ⟨_, rfl⟩
          simp only [eU, eE] at U1 U2 U3 U4 U5 U6 hE1 hE2 ⊢
          obtain ⟨N1, eN1⟩ : ∃ L, lnV U = L := ⟨_, rfl⟩
          obtain ⟨N2, eN2⟩ : ∃ L, wellV U = L := ⟨_, rfl⟩
          simp only [eN1, eN2] at U1 U2 U5 U6
          clear eU eE eN1 eN2 FU HQ4
          go_upto_region 20 with (go_at_call 6; refine (U1.out _).mono ?_; rintro e V6 ⟨a1, rfl, ha1, hB6⟩; have Q6 := Lib.hid (Q5.out.trans (hB6.mono Q5.out.size)); have A1 := Lib.hid ha1; clear hB6 U1 ha1)
          go_upto_region 21 with (go_at_call 8; refine (U2.out _).mono ?_; rintro e V7 ⟨a2, rfl, ha2, hB7⟩; have Q7 := Lib.hid (Q6.out.trans (hB7.mono Q6.out.size)); have A2 := Lib.hid ha2; clear hB7 U2 ha2)
          go_upto_region 22 with (go_at_call 7; refine (U3.out _).mono ?_; rintro e V8 ⟨rfl, hB8⟩; have Q8 := Lib.hid (Q7.out.trans (hB8.mono Q7.out.size)); clear hB8 U3)
          go_upto_region 23 with (go_at_call 9; refine (U4.out _).mono ?_; rintro e V9 ⟨rfl, hB9⟩; have Q9 := Lib.hid (Q8.out.trans (hB9.mono Q8.out.size)); clear hB9 U4)
          go_upto_region 24 with (go_at_call 10; refine (U5.out _).mono ?_; rintro e V10 ⟨a3, rfl, ha3, hB10⟩; have Q10 := Lib.hid (Q9.out.trans (hB10.mono Q9.out.size)); have A3 := Lib.hid ha3; clear hB10 U5 ha3)
          go_upto_region 25 with (go_at_call 11; refine (U6.out _).mono ?_; rintro e V11 ⟨a4, rfl, ha4, hB11⟩; have Q11 := Lib.hid (Q10.out.trans (hB11.mono Q10.out.size)); have A4 := Lib.hid ha4; clear hB11 U6 ha4)
          have S1 := Lib.hid (sameN_num (A1.out.trans A2.out.symm))
          have S2 := Lib.hid (sameN_num (a := E) (b := E) rfl)
          have S3 := Lib.hid (sameN_num (A3.out.trans A4.out.symm))
          clear A1 A2 A3 A4
          have t3 : True := trivial
          go_wp2_with (first
            | (have _t := t2; go_at_call 12; refine (specSameN_is _ _ true S1.out _).mono ?_; rintro e W1 ⟨rfl, hW1⟩; rw [hW1]; clear hW1 t2)
            | (have _t := t3; go_at_call 12; refine (specSameN_is _ _ true S2.out _).mono ?_; rintro e W2 ⟨rfl, hW2⟩; rw [hW2]; clear hW2 t3)
            | (go_at_call 12; refine (specSameN_is _ _ true S3.out _).mono ?_; rintro e W3 ⟨rfl, hW3⟩; rw [hW3]; clear hW3))
          go_ret
          exact ⟨rfl, Q11.out⟩

set_option maxRecDepth 100000 in
theorem fnSeries_far1 (p q : Option Addr) (n c m d : Nat) (hn : 4096 < n) (hx : n ≤ maxLen) (w : World) : Calls Try.prog 3 #[.slice p n c, .slice q m d] w fun e w' => e = .returned (.bool true) ∧ Below w.heap.size w w' := by
  have F1 := fun V => f6big_any p n c hx V
  rw [show decide ((4096 : Int) < n) = true by simp; omega] at F1
  clear hn hx
  go_enter Try.func3, Try.ntmps3
  go_wp2_with (go_at_call 4; refine (F1 _).mono ?_; rintro e V ⟨rfl, hV⟩; rw [hV]; clear hV)
  go_ret
  exact ⟨rfl, Below.refl _ _⟩
set_option maxRecDepth 100000 in
theorem fnSeries_far2 (p q : Option Addr) (n c m d : Nat) (hn : n ≤ 4096) (hm : 4096 < m) (hx : m ≤ maxLen) (w : World) : Calls Try.prog 3 #[.slice p n c, .slice q m d] w fun e w' => e = .returned (.bool true) ∧ Below w.heap.size w w' := by
  have F1 := fun V => f6big_any p n c (by unfold maxLen; omega) V
  have F2 := fun V => f6big_any q m d hx V
  rw [show decide ((4096 : Int) < n) = false by simp; omega] at F1
  rw [show decide ((4096 : Int) < m) = true by simp; omega] at F2
  clear hn hm hx
  have t1 : True := trivial
  go_enter Try.func3, Try.ntmps3
  go_wp2_with (first | (have _t := t1; go_at_call 4; refine (F1 _).mono ?_; rintro e V ⟨rfl, hV⟩; rw [hV]; clear hV t1) | (go_at_call 4; refine (F2 _).mono ?_; rintro e V ⟨rfl, hV⟩; rw [hV]; clear hV))
  go_ret
  exact ⟨rfl, Below.refl _ _⟩
end Go.Proofs.Ytecmpdplkaphaaa
