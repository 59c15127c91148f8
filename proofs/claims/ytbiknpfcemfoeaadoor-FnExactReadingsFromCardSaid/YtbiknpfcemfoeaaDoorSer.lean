/- The series: the exponential and the well function, the program's and the model's. No condition but that numbers are those that are asked for. -/
import Derived.Test.YtbiknpfcemfoeaaDoorLn
namespace Go.Proofs.YtbiknpfcemfoeaaDoor
open Go Go.RowKit Ieee
set_option linter.unusedSimpArgs false
set_option linter.unusedVariables false

def sqN (p : Option Nat) : Nat → Option Nat
  | 0 => p
  | k + 1 => fop .f32 .mul (sqN p k) (sqN p k)
def exP (v : Option Nat) : Option Nat := pStep v (pStep v (pStep v (num .f32 1042983595) (num .f32 1056964608)) (num .f32 1065353216)) (num .f32 1065353216)
/-- e to the power -u, up to which NaN it is. -/
def expV (u : Nat) : Option Nat := fop .f32 .quo (num .f32 1065353216) (sqN (exP (fop .f32 .quo (num .f32 u) (num .f32 1132462080))) 8)

theorem polyV_num (q : Nat) (o p : Option Nat) (cs : List Nat) (h : num .f32 q = o) : polyV (num .f32 q) p cs = polyV o p cs := by rw [h]

set_option maxRecDepth 100000 in
set_option maxHeartbeats 1000000 in
theorem l03Exp_any (u : Nat) (w : World) : Calls Tryd.prog 100 #[.float .f32 u] w (GvB (expV u) w) := by
  go_enter Tryd.func100, Tryd.ntmps100
  have tc1 : True := trivial
  have t1 : True := trivial
  have t2 : True := trivial
  have t3 : True := trivial
  have t4 : True := trivial
  have t5 : True := trivial
  have t6 : True := trivial
  have t7 : True := trivial
  go_wp2_with (first | (have _t := tc1; go_at_call 50; refine (l03Ratio_any 1065353216 1086324736 1042983595 1 6 (by decide +kernel) (by decide +kernel) (by decide +kernel) _).mono ?_; rintro e Vc1 ⟨rfl, hqc1⟩; have Qc1 := Lib.hid hqc1; clear hqc1; clear tc1) | (have _t := t1; refine wpList_float rfl _ _ _ _ _ rfl rfl .f32 _ _ rfl rfl ?_; intro r1 n1 hr1; have H1 := Lib.hid hr1; clear t1 hr1) | (have _t := t2; refine wpList_float rfl _ _ _ _ _ rfl rfl .f32 _ _ rfl rfl ?_; intro r2 n2 hr2; have H2 := Lib.hid hr2; clear t2 hr2) | (have _t := t3; refine wpList_float rfl _ _ _ _ _ rfl rfl .f32 _ _ rfl rfl ?_; intro r3 n3 hr3; have H3 := Lib.hid hr3; clear t3 hr3) | (have _t := t4; refine wpList_float rfl _ _ _ _ _ rfl rfl .f32 _ _ rfl rfl ?_; intro r4 n4 hr4; have H4 := Lib.hid hr4; clear t4 hr4) | (have _t := t5; refine wpList_float rfl _ _ _ _ _ rfl rfl .f32 _ _ rfl rfl ?_; intro r5 n5 hr5; have H5 := Lib.hid hr5; clear t5 hr5) | (have _t := t6; refine wpList_float rfl _ _ _ _ _ rfl rfl .f32 _ _ rfl rfl ?_; intro r6 n6 hr6; have H6 := Lib.hid hr6; clear t6 hr6) | (have _t := t7; refine wpList_float rfl _ _ _ _ _ rfl rfl .f32 _ _ rfl rfl ?_; intro r7 n7 hr7; have H7 := Lib.hid hr7; clear t7 hr7))
  have hp : num .f32 r7 = exP (fop .f32 .quo (num .f32 u) (num .f32 1132462080)) := by
    rw [H7.out, H6.out, H5.out, H4.out, H3.out, H2.out, H1.out, mul_comm32 _ (num .f32 1042983595)]
    rfl
  have hQ0 := ((((Quiet.refl w).drewN n1).trans Qc1.out).drewN (n2 + n3 + n4 + n5 + n6 + n7))
  have HP := Lib.hid hp
  clear H1 H2 H3 H4 H5 H6 H7 hp
  go_loopw [4, 5] (fun p i wr => ∃ k a : Nat, k ≤ 8 ∧ i = .int .i64 (k : Int) ∧ p = .float .f32 a ∧ Hid (num .f32 a = sqN (num .f32 r7) k) ∧ Hid (Quiet w wr)) (fun _ i _ => 8 - (intOf i).toNat)
  case atStart => exact ⟨0, r7, by omega, rfl, rfl, rfl, hQ0⟩
  case round =>
    obtain ⟨k, a, hk, rfl, rfl, ha, hQ⟩ := hrel
    clear hQ0
    by_cases hlt : k < 8
    · go_wp2_with (refine wpList_float rfl _ _ _ _ _ rfl rfl .f32 _ _ rfl rfl ?_; intro r kk hr; have H := Lib.hid hr; clear hr)
      go_roundw
      case rel => exact ⟨k + 1, r, by omega, by go_num, rfl, (by rw [H.out, ha.out]; rfl), hQ.out.drewN _⟩
      case measure => simp [intOf]; omega
    · obtain rfl : k = 8 := by omega
      go_wp2_with (refine wpList_float rfl _ _ _ _ _ rfl rfl .f32 _ _ rfl rfl ?_; intro r kk hr; have H := Lib.hid hr; clear hr)
      go_ret
      exact ⟨r, rfl, (by rw [H.out, ha.out, HP.out]; rfl), (hQ.out.drewN _).below _⟩

set_option maxRecDepth 100000 in
set_option maxHeartbeats 1000000 in
theorem expDown_any (u : Nat) (w : World) : Calls Tryd.prog 118 #[.float .f32 u] w (GvB (expV u) w) := by
  go_enter Tryd.func118, Tryd.ntmps118
  have tc1 : True := trivial
  have t1 : True := trivial
  go_wp2_with (first | (have _t := tc1; go_at_call 113; refine (poly_new _ _ [1056964608, 1065353216, 1065353216] _ (World.drewN w _) (by decide) _ rfl).mono ?_; rintro e Vc1 ⟨rp, rfl, hr, hq⟩; have HP := Lib.hid hr; have Qc1 := Lib.hid hq; clear hr hq; clear tc1) | (have _t := t1; refine wpList_float rfl _ _ _ _ _ rfl rfl .f32 _ _ rfl rfl ?_; intro r1 n1 hr1; have H1 := Lib.hid hr1; clear t1 hr1))
  have hp : num .f32 rp = exP (fop .f32 .quo (num .f32 u) (num .f32 1132462080)) := by
    rw [HP.out, H1.out]
    rfl
  have hQ0 : Below w.heap.size w Vc1 := (Quiet.below ⟨_, rfl⟩ _).trans Qc1.out
  have HP2 := Lib.hid hp
  clear H1 HP hp
  go_loopw [3, 8] (fun p i wr => ∃ k a : Nat, k ≤ 8 ∧ i = .int .i64 (k : Int) ∧ p = .float .f32 a ∧ Hid (num .f32 a = sqN (num .f32 rp) k) ∧ Hid (Below w.heap.size w wr)) (fun _ i _ => 8 - (intOf i).toNat)
  case atStart => exact ⟨0, rp, by omega, rfl, rfl, rfl, hQ0⟩
  case round =>
    obtain ⟨k, a, hk, rfl, rfl, ha, hQ⟩ := hrel
    clear hQ0
    by_cases hlt : k < 8
    · go_wp2_with (refine wpList_float rfl _ _ _ _ _ rfl rfl .f32 _ _ rfl rfl ?_; intro r kk hr; have H := Lib.hid hr; clear hr)
      go_roundw
      case rel => exact ⟨k + 1, r, by omega, by go_num, rfl, (by rw [H.out, ha.out]; rfl), hQ.out.trans (Quiet.below ⟨_, rfl⟩ _)⟩
      case measure => simp [intOf]; omega
    · obtain rfl : k = 8 := by omega
      go_wp2_with (refine wpList_float rfl _ _ _ _ _ rfl rfl .f32 _ _ rfl rfl ?_; intro r kk hr; have H := Lib.hid hr; clear hr)
      go_ret
      exact ⟨r, rfl, (by rw [H.out, ha.out, HP2.out]; rfl), hQ.out.trans (Quiet.below ⟨_, rfl⟩ _)⟩

/-- Taking away is adding the opposite. -/
theorem sub_neg32 (x : Option Nat) (c d : Nat) (hc : nanK .f32 c = false) (hd : nanK .f32 d = false) (h : (single.read c).opposite = single.read d) : fop .f32 .sub x (num .f32 c) = fop .f32 .add x (num .f32 d) := by
  rw [num_some hc, num_some hd]
  cases x with
  | none => rfl
  | some a =>
    show Format.sub single a c = Format.add single a d
    unfold Format.sub Format.add
    rw [h]
def serH (u : Option Nat) : Option Nat := pStep u (pStep u (pStep u (pStep u (num .f32 987395086) (num .f32 3156912811)) (num .f32 1029934649)) (num .f32 3196059648)) (num .f32 1065353216)
/-- The well function of a small number. -/
def serV (u : Nat) : Option Nat := fop .f32 .add (fop .f32 .sub (num .f32 3205743720) (lnV u)) (fop .f32 .mul (serH (num .f32 u)) (num .f32 u))
def kb (n : Nat) : Nat := floatOfInt .f32 (8 - (n : Int))
def fraTo (u : Option Nat) : Nat → Option Nat
  | 0 => u
  | n + 1 => fop .f32 .add u (fop .f32 .quo (num .f32 (kb n)) (fop .f32 .add (num .f32 1065353216) (fop .f32 .quo (num .f32 (kb n)) (fraTo u n))))
/-- The well function of a greater one. -/
def fraV (u : Nat) : Option Nat := fop .f32 .quo (expV u) (fraTo (num .f32 u) 8)
def wellV (u : Nat) : Option Nat := if u ≤ 1065353216 then serV u else fraV u
theorem leB_pos {a b : Nat} (h1 : 8388608 ≤ a) (h2 : a < 2139095040) (h3 : 8388608 ≤ b) (h4 : b < 2139095040) : (FloatKind.f32.format.order a b == some Ordering.lt || FloatKind.f32.format.order a b == some Ordering.eq) = decide (a ≤ b) := by
  rw [ord_pos h1 h2 h3 h4]
  rcases Nat.lt_trichotomy a b with h | h | h
  · have : compare a b = .lt := by simp only [compare, compareOfLessAndEq]; rw [if_pos h]
    rw [this]; simp; omega
  · have : compare a b = .eq := by simp only [compare, compareOfLessAndEq]; rw [if_neg (by omega), if_pos h]
    rw [this]; simp; omega
  · have : compare a b = .gt := by simp only [compare, compareOfLessAndEq]; rw [if_neg (by omega), if_neg (by omega)]
    rw [this]; simp; omega
theorem gtB_pos {a b : Nat} (h1 : 8388608 ≤ a) (h2 : a < 2139095040) (h3 : 8388608 ≤ b) (h4 : b < 2139095040) : (FloatKind.f32.format.order a b == some Ordering.gt) = decide (b < a) := by
  rw [ord_pos h1 h2 h3 h4]
  rcases Nat.lt_trichotomy a b with h | h | h
  · have : compare a b = .lt := by simp only [compare, compareOfLessAndEq]; rw [if_pos h]
    rw [this]; simp; omega
  · have : compare a b = .eq := by simp only [compare, compareOfLessAndEq]; rw [if_neg (by omega), if_pos h]
    rw [this]; simp; omega
  · have : compare a b = .gt := by simp only [compare, compareOfLessAndEq]; rw [if_neg (by omega), if_neg (by omega)]
    rw [this]; simp; omega
def fltOf : Value → Nat
  | .float _ b => b
  | _ => 0
theorem kb_less : ∀ n, n < 8 → kb (n + 1) < kb n := by decide +kernel
theorem kb_step : ∀ n, n < 8 → fop .f32 .sub (num .f32 (kb n)) (num .f32 1065353216) = some (kb (n + 1)) := by decide +kernel
theorem kb_ge : ∀ n, n < 8 → (FloatKind.f32.format.order (kb n) 1065353216 == some Ordering.gt || FloatKind.f32.format.order (kb n) 1065353216 == some Ordering.eq) = true := by decide +kernel
theorem kb_end : (FloatKind.f32.format.order (kb 8) 1065353216 == some Ordering.gt || FloatKind.f32.format.order (kb 8) 1065353216 == some Ordering.eq) = false := by decide +kernel

set_option maxRecDepth 100000 in
set_option maxHeartbeats 1000000 in
theorem l03Well_any (u : Nat) (h1 : 562036736 ≤ u) (h2 : u ≤ 1568669696) (w : World) : Calls Tryd.prog 81 #[.float .f32 u] w (GvB (wellV u) w) := by
  have hle := leB_pos (a := u) (b := 1065353216) (by omega) (by omega) (by omega) (by omega)
  by_cases hu : u ≤ 1065353216
  · rw [decide_eq_true hu] at hle
    have hW : wellV u = serV u := if_pos hu
    have HW := Lib.hid hW
    clear hW
    go_enter Tryd.func81, Tryd.ntmps81
    have tc1 : True := trivial
    have tc2 : True := trivial
    have tc3 : True := trivial
    have tc4 : True := trivial
    have tl1 : True := trivial
    have t1 : True := trivial
    have t2 : True := trivial
    have t3 : True := trivial
    have t4 : True := trivial
    have t5 : True := trivial
    have t6 : True := trivial
    have t7 : True := trivial
    have t8 : True := trivial
    have t9 : True := trivial
    have t10 : True := trivial
    have t11 : True := trivial
    have t12 : True := trivial
    go_wp2_with (first | (have _t := tc1; go_at_call 50; refine (l03Ratio_any 1065353216 1142292480 987395086 1 600 (by decide +kernel) (by decide +kernel) (by decide +kernel) _).mono ?_; rintro e Vc1 ⟨rfl, hqc1⟩; have Qc1 := Lib.hid hqc1; clear hqc1; clear tc1) | (have _t := tc2; go_at_call 50; refine (l03Ratio_any 1065353216 1119879168 1009429163 1 96 (by decide +kernel) (by decide +kernel) (by decide +kernel) _).mono ?_; rintro e Vc2 ⟨rfl, hqc2⟩; have Qc2 := Lib.hid hqc2; clear hqc2; clear tc2) | (have _t := tc3; go_at_call 50; refine (l03Ratio_any 1065353216 1099956224 1029934649 1 18 (by decide +kernel) (by decide +kernel) (by decide +kernel) _).mono ?_; rintro e Vc3 ⟨rfl, hqc3⟩; have Qc3 := Lib.hid hqc3; clear hqc3; clear tc3) | (have _t := tc4; go_at_call 50; refine (l03Ratio_any 1065353216 1082130432 1048576000 1 4 (by decide +kernel) (by decide +kernel) (by decide +kernel) _).mono ?_; rintro e Vc4 ⟨rfl, hqc4⟩; have Qc4 := Lib.hid hqc4; clear hqc4; clear tc4) | (have _t := tl1; go_at_call 28; refine (l03Ln_any u h1 h2 _).mono ?_; rintro e Vl1 ⟨rl, rfl, hr, hq⟩; have HL := Lib.hid hr; have Ql1 := Lib.hid hq; clear hr hq; clear tl1) | (have _t := t1; refine wpList_float rfl _ _ _ _ _ rfl rfl .f32 _ _ rfl rfl ?_; intro r1 n1 hr1; have H1 := Lib.hid hr1; clear t1 hr1) | (have _t := t2; refine wpList_float rfl _ _ _ _ _ rfl rfl .f32 _ _ rfl rfl ?_; intro r2 n2 hr2; have H2 := Lib.hid hr2; clear t2 hr2) | (have _t := t3; refine wpList_float rfl _ _ _ _ _ rfl rfl .f32 _ _ rfl rfl ?_; intro r3 n3 hr3; have H3 := Lib.hid hr3; clear t3 hr3) | (have _t := t4; refine wpList_float rfl _ _ _ _ _ rfl rfl .f32 _ _ rfl rfl ?_; intro r4 n4 hr4; have H4 := Lib.hid hr4; clear t4 hr4) | (have _t := t5; refine wpList_float rfl _ _ _ _ _ rfl rfl .f32 _ _ rfl rfl ?_; intro r5 n5 hr5; have H5 := Lib.hid hr5; clear t5 hr5) | (have _t := t6; refine wpList_float rfl _ _ _ _ _ rfl rfl .f32 _ _ rfl rfl ?_; intro r6 n6 hr6; have H6 := Lib.hid hr6; clear t6 hr6) | (have _t := t7; refine wpList_float rfl _ _ _ _ _ rfl rfl .f32 _ _ rfl rfl ?_; intro r7 n7 hr7; have H7 := Lib.hid hr7; clear t7 hr7) | (have _t := t8; refine wpList_float rfl _ _ _ _ _ rfl rfl .f32 _ _ rfl rfl ?_; intro r8 n8 hr8; have H8 := Lib.hid hr8; clear t8 hr8) | (have _t := t9; refine wpList_float rfl _ _ _ _ _ rfl rfl .f32 _ _ rfl rfl ?_; intro r9 n9 hr9; have H9 := Lib.hid hr9; clear t9 hr9) | (have _t := t10; refine wpList_float rfl _ _ _ _ _ rfl rfl .f32 _ _ rfl rfl ?_; intro r10 n10 hr10; have H10 := Lib.hid hr10; clear t10 hr10) | (have _t := t11; refine wpList_float rfl _ _ _ _ _ rfl rfl .f32 _ _ rfl rfl ?_; intro r11 n11 hr11; have H11 := Lib.hid hr11; clear t11 hr11) | (have _t := t12; refine wpList_float rfl _ _ _ _ _ rfl rfl .f32 _ _ rfl rfl ?_; intro r12 n12 hr12; have H12 := Lib.hid hr12; clear t12 hr12))
    go_ret
    refine ⟨r12, rfl, ?_, ?_⟩
    · rw [HW.out, H12.out, H11.out, H10.out, HL.out, H9.out, H8.out, H7.out, H6.out, H5.out, H4.out, H3.out, H2.out, H1.out, sub_neg32 _ 1009429163 3156912811 (by decide +kernel) (by decide +kernel) (by decide +kernel), sub_neg32 _ 1048576000 3196059648 (by decide +kernel) (by decide +kernel) (by decide +kernel), mul_comm32 _ (num .f32 987395086), show fop .f32 .sub (num .f32 0) (num .f32 1058260072) = num .f32 3205743720 by decide +kernel]
      rfl
    · have q := (((((((Quiet.refl w).trans Qc1.out).drewN n1).trans Qc2.out).drewN (n2 + n3)).trans Qc3.out).drewN (n4 + n5)).trans Qc4.out
      have q2 := q.drewN (n6 + n7 + n8 + n9)
      have q3 := (q2.below w.heap.size).trans (Ql1.out.mono (Nat.le_of_eq q2.size.symm))
      exact q3.trans (Quiet.below ⟨_, rfl⟩ _)
  · rw [decide_eq_false hu] at hle
    have hW : wellV u = fraV u := if_neg hu
    have HW := Lib.hid hW
    clear hW
    go_enter Tryd.func81, Tryd.ntmps81
    go_wp2
    go_loopw [6, 7] (fun f i wr => ∃ n a : Nat, n ≤ 8 ∧ i = .int .i64 (8 - (n : Int)) ∧ f = .float .f32 a ∧ Hid (num .f32 a = fraTo (num .f32 u) n) ∧ Hid (Quiet w wr)) (fun _ i _ => (intOf i).toNat)
    case atStart => exact ⟨0, u, by omega, rfl, rfl, rfl, Quiet.refl _⟩
    case round =>
      obtain ⟨n, a, hn, rfl, rfl, ha, hQ⟩ := hrel
      by_cases hlt : n < 8
      · have t1 : True := trivial
        have t2 : True := trivial
        have t3 : True := trivial
        have t4 : True := trivial
        go_wp2_with (first | (have _t := t1; refine wpList_float rfl _ _ _ _ _ rfl rfl .f32 _ _ rfl rfl ?_; intro r1 n1 hr1; have H1 := Lib.hid hr1; clear t1 hr1) | (have _t := t2; refine wpList_float rfl _ _ _ _ _ rfl rfl .f32 _ _ rfl rfl ?_; intro r2 n2 hr2; have H2 := Lib.hid hr2; clear t2 hr2) | (have _t := t3; refine wpList_float rfl _ _ _ _ _ rfl rfl .f32 _ _ rfl rfl ?_; intro r3 n3 hr3; have H3 := Lib.hid hr3; clear t3 hr3) | (have _t := t4; refine wpList_float rfl _ _ _ _ _ rfl rfl .f32 _ _ rfl rfl ?_; intro r4 n4 hr4; have H4 := Lib.hid hr4; clear t4 hr4))
        go_roundw
        case rel => exact ⟨n + 1, r4, by omega, by go_num, rfl, (by rw [H4.out, H3.out, H2.out, H1.out, ha.out]; rfl), hQ.out.drewN _⟩
        case measure => simp [intOf]; omega
      · obtain rfl : n = 8 := by omega
        go_wp2_with (first | (go_at_call 100; refine (l03Exp_any u _).mono ?_; rintro e V ⟨re, rfl, hr, hq⟩; have HE := Lib.hid hr; have QE := Lib.hid hq; clear hr hq) | (refine wpList_float rfl _ _ _ _ _ rfl rfl .f32 _ _ rfl rfl ?_; intro r kk hr; have H := Lib.hid hr; clear hr))
        go_ret
        exact ⟨r, rfl, (by rw [HW.out, H.out, ha.out, HE.out]; rfl), ((hQ.out.below _).trans (QE.out.mono (Nat.le_of_eq hQ.out.size.symm))).trans (Quiet.below ⟨_, rfl⟩ _)⟩

set_option maxRecDepth 100000 in
set_option maxHeartbeats 1000000 in
theorem bySeries_any (u : Nat) (h1 : 562036736 ≤ u) (h2 : u ≤ 1568669696) (w : World) : Calls Tryd.prog 115 #[.float .f32 u] w (GvB (serV u) w) := by
  go_enter Tryd.func115, Tryd.ntmps115
  have tc1 : True := trivial
  have tl1 : True := trivial
  have t1 : True := trivial
  have t2 : True := trivial
  have t3 : True := trivial
  go_wp2_with (first | (have _t := tc1; go_at_call 113; refine (poly_new _ _ [3156912811, 1029934649, 3196059648, 1065353216] _ w (by decide) _ rfl).mono ?_; rintro e Vc1 ⟨rp, rfl, hr, hq⟩; have HP := Lib.hid hr; have Qc1 := Lib.hid hq; clear hr hq; clear tc1) | (have _t := tl1; go_at_call 103; refine (logarithm_any u h1 h2 _).mono ?_; rintro e Vl1 ⟨rl, rfl, hr, hq⟩; have HL := Lib.hid hr; have Ql1 := Lib.hid hq; clear hr hq; clear tl1) | (have _t := t1; refine wpList_float rfl _ _ _ _ _ rfl rfl .f32 _ _ rfl rfl ?_; intro r1 n1 hr1; have H1 := Lib.hid hr1; clear t1 hr1) | (have _t := t2; refine wpList_float rfl _ _ _ _ _ rfl rfl .f32 _ _ rfl rfl ?_; intro r2 n2 hr2; have H2 := Lib.hid hr2; clear t2 hr2) | (have _t := t3; refine wpList_float rfl _ _ _ _ _ rfl rfl .f32 _ _ rfl rfl ?_; intro r3 n3 hr3; have H3 := Lib.hid hr3; clear t3 hr3))
  go_ret
  refine ⟨r3, rfl, ?_, ?_⟩
  · rw [H3.out, H2.out, H1.out, HL.out, HP.out]
    rfl
  · exact (Qc1.out.trans (Ql1.out.mono Qc1.out.size)).trans (Quiet.below ⟨_, rfl⟩ _)

set_option maxRecDepth 100000 in
set_option maxHeartbeats 1000000 in
theorem byFraction_any (u : Nat) (w : World) : Calls Tryd.prog 116 #[.float .f32 u] w (GvB (fraV u) w) := by
  have h8 : (1090519040 : Nat) = kb 0 := by decide +kernel
  go_enter Tryd.func116, Tryd.ntmps116
  go_wp2
  go_loopw [4, 5] (fun f i wr => ∃ n a : Nat, n ≤ 8 ∧ i = .float .f32 (kb n) ∧ f = .float .f32 a ∧ Hid (num .f32 a = fraTo (num .f32 u) n) ∧ Hid (Quiet w wr)) (fun _ i _ => fltOf i)
  case atStart => exact ⟨0, u, by omega, by rw [← h8], rfl, rfl, Quiet.refl _⟩
  case round =>
    obtain ⟨n, a, hn, rfl, rfl, ha, hQ⟩ := hrel
    by_cases hlt : n < 8
    · have hge := kb_ge n hlt
      have hst := Lib.hid (kb_step n hlt)
      have hm := kb_less n hlt
      have t1 : True := trivial
      have t2 : True := trivial
      have t3 : True := trivial
      have t4 : True := trivial
      have t5 : True := trivial
      go_wp2_with (first | (have _t := t1; refine wpList_float rfl _ _ _ _ _ rfl rfl .f32 _ _ rfl rfl ?_; intro r1 n1 hr1; have H1 := Lib.hid hr1; clear t1 hr1) | (have _t := t2; refine wpList_float rfl _ _ _ _ _ rfl rfl .f32 _ _ rfl rfl ?_; intro r2 n2 hr2; have H2 := Lib.hid hr2; clear t2 hr2) | (have _t := t3; refine wpList_float rfl _ _ _ _ _ rfl rfl .f32 _ _ rfl rfl ?_; intro r3 n3 hr3; have H3 := Lib.hid hr3; clear t3 hr3) | (have _t := t4; refine wpList_float rfl _ _ _ _ _ rfl rfl .f32 _ _ rfl rfl ?_; intro r4 n4 hr4; have H4 := Lib.hid hr4; clear t4 hr4) | (have _t := t5; refine wpList_float rfl _ _ _ _ _ rfl rfl .f32 _ _ rfl rfl ?_; intro r5 n5 hr5; have H5 := Lib.hid hr5; clear t5 hr5))
      go_roundw
      case rel => exact ⟨n + 1, r4, by omega, by rw [(num_eq_some (H5.out.trans hst.out)).1], rfl, (by rw [H4.out, H3.out, H2.out, H1.out, ha.out]; rfl), hQ.out.drewN _⟩
      case measure => rw [(num_eq_some (H5.out.trans hst.out)).1]; simp [fltOf]; exact hm
    · obtain rfl : n = 8 := by omega
      have hge := kb_end
      go_wp2_with (first | (go_at_call 118; refine (expDown_any u _).mono ?_; rintro e V ⟨re, rfl, hr, hq⟩; have HE := Lib.hid hr; have QE := Lib.hid hq; clear hr hq) | (refine wpList_float rfl _ _ _ _ _ rfl rfl .f32 _ _ rfl rfl ?_; intro r kk hr; have H := Lib.hid hr; clear hr))
      go_ret
      exact ⟨r, rfl, (by rw [H.out, ha.out, HE.out]; rfl), ((hQ.out.below _).trans (QE.out.mono (Nat.le_of_eq hQ.out.size.symm))).trans (Quiet.below ⟨_, rfl⟩ _)⟩
end Go.Proofs.YtbiknpfcemfoeaaDoor
