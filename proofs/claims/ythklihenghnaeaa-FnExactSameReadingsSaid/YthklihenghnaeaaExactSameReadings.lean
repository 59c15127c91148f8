/- The law FnExactSameReadings of this commit: for every input the call returns true, and each argument reads afterwards as it read before. Condition: none. -/
import Derived.Test.YthklihenghnaeaaRs
import Derived.Test.YthklihenghnaeaaSr
namespace Go.Proofs.Ythklihenghnaeaa
open Go Go.ChangeShapes Go.WideShapes Go.ChangeAt Go.RowKit Go.Deep
set_option linter.unusedSimpArgs false
set_option linter.unusedVariables false

theorem szReadingS_yes (p : Option Addr) (n c l : Nat) (h : n ≤ l) (hl : l ≤ 1048576) (w : World) : Calls Try.prog 40 #[.slice p n c, .int .i64 (l : Int)] w fun e w' => e = .returned (.int .i64 ((l : Int) - n)) ∧ w' = w := by
  go_enter Try.func40, Try.ntmps40
  go_wp2
  go_ret
  exact ⟨rfl, rfl⟩
theorem szReadingS_no (p : Option Addr) (n c l : Nat) (h : l < n) (hl : l ≤ 1048576) (hn : n ≤ maxLen) (w : World) : Calls Try.prog 40 #[.slice p n c, .int .i64 (l : Int)] w fun e w' => e = .returned (.int .i64 (-1)) ∧ w' = w := by
  unfold maxLen at hn
  go_enter Try.func40, Try.ntmps40
  go_wp2
  go_ret
  exact ⟨rfl, rfl⟩

set_option maxRecDepth 100000 in
set_option maxHeartbeats 2000000 in
theorem fnExactSameReadings_far (p q : Option Addr) (n m c d : Nat) (hn : 1048576 < n) (hx : n ≤ maxLen) (w : World) : Calls Try.prog 13 #[.slice p n c, .slice q m d] w fun e w' => e = .returned (.bool true) ∧ Below w.heap.size w w' := by
  have T := fun V => szReadingS_no p n c 1048576 hn (by omega) hx V
  clear hn hx
  go_enter Try.func13, Try.ntmps13
  go_wp2_with (go_at_call 40; refine (T _).mono ?_; rintro e V ⟨rfl, hV⟩; rw [hV]; clear hV)
  go_ret
  exact ⟨rfl, Below.refl _ _⟩

set_option maxRecDepth 100000 in
set_option maxHeartbeats 2000000 in
theorem fnExactSameReadings_far2 (p q : Option Addr) (n m c d : Nat) (hn : n ≤ 1048576) (hm : 1048576 - n < m) (hx : m ≤ maxLen) (w : World) : Calls Try.prog 13 #[.slice p n c, .slice q m d] w fun e w' => e = .returned (.bool true) ∧ Below w.heap.size w w' := by
  have T := fun V => szReadingS_yes p n c 1048576 hn (by omega) V
  have T' := fun V => szReadingS_no q m d (1048576 - n) hm (by omega) hx V
  have e1 : ((1048576 : Nat) : Int) - (n : Int) = ((1048576 - n : Nat) : Int) := by omega
  simp only [e1] at T
  clear hx e1 hm
  obtain ⟨l, hl⟩ : ∃ l, 1048576 - n = l := ⟨_, rfl⟩
  rw [hl] at T T'
  have hl2 : l ≤ 1048576 := by omega
  clear hl hn
  have t1 : True := trivial
  go_enter Try.func13, Try.ntmps13
  go_wp2_with (first | (have _t := t1; go_at_call 40; refine (T _).mono ?_; rintro e V ⟨rfl, hV⟩; rw [hV]; clear hV t1) | (go_at_call 40; refine (T' _).mono ?_; rintro e V ⟨rfl, hV⟩; rw [hV]; clear hV))
  go_ret
  exact ⟨rfl, Below.refl _ _⟩

set_option maxRecDepth 100000 in
set_option maxHeartbeats 4000000 in
theorem fnExactSameReadings_near (p q : Option Addr) (c d : Nat) (L M : List R2) (hn : L.length ≤ 1048576) (hm : M.length ≤ 1048576 - L.length) (w : World) (hp : RsAt w p L) (hq : RsAt w q M) : Calls Try.prog 13 #[.slice p L.length c, .slice q M.length d] w fun e w' => e = .returned (.bool true) ∧ Below w.heap.size w w' := by
  have T := fun V => szReadingS_yes p L.length c 1048576 hn (by omega) V
  have T' := fun V => szReadingS_yes q M.length d (1048576 - L.length) hm (by omega) V
  have e1 : ((1048576 : Nat) : Int) - (L.length : Int) = ((1048576 - L.length : Nat) : Int) := by omega
  have e2 : ((1048576 - L.length : Nat) : Int) - (M.length : Int) = ((1048576 - L.length - M.length : Nat) : Int) := by omega
  simp only [e1] at T
  simp only [e2] at T'
  obtain ⟨l, hl⟩ : ∃ l, 1048576 - L.length = l := ⟨_, rfl⟩
  obtain ⟨l', hl'⟩ : ∃ l', l - M.length = l' := ⟨_, rfl⟩
  have hL := Lib.hid hn
  have hM := Lib.hid (show M.length ≤ 1048576 by omega)
  rw [hl] at T T'
  rw [hl'] at T'
  have hl2 : l ≤ 1048576 := by omega
  have hl3 : l' ≤ 1048576 := by omega
  obtain ⟨r, hr⟩ : ∃ r, sameRs L M = r := ⟨_, rfl⟩
  have T3 := fun (p q : Option Addr) (c d : Nat) (V : World) (h1 : RsAt V p L) (h2 : RsAt V q M) => specSameReadings_any p q c d L M hL.out hM.out V h1 h2
  have T4 := fun (p q : Option Addr) (c d : Nat) (V : World) (h1 : RsAt V p L) (h2 : RsAt V q M) => implSameReadings_any p q c d L M hL.out hM.out V h1 h2
  rw [hr] at T3 T4
  have PA0 := Lib.hid hp
  have PB0 := Lib.hid hq
  have BW0 := Lib.hid (Below.refl w.heap.size w)
  clear hp hq hn hm e1 e2 hl hl' hr
  have t1 : True := trivial
  have t2 : True := trivial
  have t3 : True := trivial
  have t4 : True := trivial
  have t5 : True := trivial
  have t6 : True := trivial
  have t7 : True := trivial
  have t8 : True := trivial
  have t9 : True := trivial
  have t10 : True := trivial
  have t11 : True := trivial
  have t12 : True := trivial
  cases r
  all_goals
    go_enter Try.func13, Try.ntmps13
    go_wp2_with (first | (have _t := t1; go_at_call 40; refine (T _).mono ?_; rintro e V ⟨rfl, hV⟩; rw [hV]; clear hV; clear t1) | (have _t := t2; go_at_call 40; refine (T' _).mono ?_; rintro e V ⟨rfl, hV⟩; rw [hV]; clear hV; clear t2) | (have _t := t3; go_at_call 42; refine (toReadingS_any p c L hL.out _ PA0.out).mono ?_; rintro e V1 ⟨b1, rfl, _, _, x1, hB1⟩; have PAn1 := Lib.hid (PA0.out.keep hB1); have PBn1 := Lib.hid (PB0.out.keep hB1); have XAn1 := Lib.hid x1; have BWn1 := Lib.hid (BW0.out.trans (hB1.mono BW0.out.size)); clear PA0 PB0 BW0 hB1 x1; clear t3) | (have _t := t4; go_at_call 42; refine (toReadingS_any q d M hM.out _ PBn1.out).mono ?_; rintro e V2 ⟨b2, rfl, _, _, x2, hB2⟩; have PAn2 := Lib.hid (PAn1.out.keep hB2); have PBn2 := Lib.hid (PBn1.out.keep hB2); have XAn2 := Lib.hid (XAn1.out.keep hB2); have XBn2 := Lib.hid x2; have BWn2 := Lib.hid (BWn1.out.trans (hB2.mono BWn1.out.size)); clear PAn1 PBn1 XAn1 BWn1 hB2 x2; clear t4) | (have _t := t5; go_at_call 45; refine (T3 _ _ _ _ _ XAn2.out XBn2.out).mono ?_; rintro e V3 ⟨rfl, hB3⟩; have PAn3 := Lib.hid (PAn2.out.keep hB3); have PBn3 := Lib.hid (PBn2.out.keep hB3); have XAn3 := Lib.hid (XAn2.out.keep hB3); have XBn3 := Lib.hid (XBn2.out.keep hB3); have BWn3 := Lib.hid (BWn2.out.trans (hB3.mono BWn2.out.size)); clear PAn2 PBn2 XAn2 XBn2 BWn2 hB3 ; clear t5) | (have _t := t6; go_at_call 42; refine (toReadingS_any p c L hL.out _ PAn3.out).mono ?_; rintro e V4 ⟨b4, rfl, _, _, x4, hB4⟩; have PAn4 := Lib.hid (PAn3.out.keep hB4); have PBn4 := Lib.hid (PBn3.out.keep hB4); have XAn4 := Lib.hid (XAn3.out.keep hB4); have XBn4 := Lib.hid (XBn3.out.keep hB4); have YAn4 := Lib.hid x4; have BWn4 := Lib.hid (BWn3.out.trans (hB4.mono BWn3.out.size)); clear PAn3 PBn3 XAn3 XBn3 BWn3 hB4 x4; clear t6) | (have _t := t7; go_at_call 42; refine (toReadingS_any q d M hM.out _ PBn4.out).mono ?_; rintro e V5 ⟨b5, rfl, _, _, x5, hB5⟩; have PAn5 := Lib.hid (PAn4.out.keep hB5); have PBn5 := Lib.hid (PBn4.out.keep hB5); have XAn5 := Lib.hid (XAn4.out.keep hB5); have XBn5 := Lib.hid (XBn4.out.keep hB5); have YAn5 := Lib.hid (YAn4.out.keep hB5); have YBn5 := Lib.hid x5; have BWn5 := Lib.hid (BWn4.out.trans (hB5.mono BWn4.out.size)); clear PAn4 PBn4 XAn4 XBn4 YAn4 BWn4 hB5 x5; clear t7) | (have _t := t8; go_at_call 46; refine (T4 _ _ _ _ _ YAn5.out YBn5.out).mono ?_; rintro e V6 ⟨rfl, hB6⟩; have PAn6 := Lib.hid (PAn5.out.keep hB6); have PBn6 := Lib.hid (PBn5.out.keep hB6); have XAn6 := Lib.hid (XAn5.out.keep hB6); have XBn6 := Lib.hid (XBn5.out.keep hB6); have YAn6 := Lib.hid (YAn5.out.keep hB6); have YBn6 := Lib.hid (YBn5.out.keep hB6); have BWn6 := Lib.hid (BWn5.out.trans (hB6.mono BWn5.out.size)); clear PAn5 PBn5 XAn5 XBn5 YAn5 YBn5 BWn5 hB6 ; clear t8) | (have _t := t9; go_at_call 42; refine (toReadingS_any p c L hL.out _ PAn6.out).mono ?_; rintro e V7 ⟨b7, rfl, _, _, x7, hB7⟩; have PAn7 := Lib.hid (PAn6.out.keep hB7); have PBn7 := Lib.hid (PBn6.out.keep hB7); have XAn7 := Lib.hid (XAn6.out.keep hB7); have XBn7 := Lib.hid (XBn6.out.keep hB7); have YAn7 := Lib.hid (YAn6.out.keep hB7); have YBn7 := Lib.hid (YBn6.out.keep hB7); have ZAn7 := Lib.hid x7; have BWn7 := Lib.hid (BWn6.out.trans (hB7.mono BWn6.out.size)); clear PAn6 PBn6 XAn6 XBn6 YAn6 YBn6 BWn6 hB7 x7; clear t9) | (have _t := t10; go_at_call 44; refine (eqReadingS_yes _ _ _ _ L hL.out _ YAn7.out ZAn7.out).mono ?_; rintro e V8 ⟨rfl, hB8⟩; have PAn8 := Lib.hid (PAn7.out.keep hB8); have PBn8 := Lib.hid (PBn7.out.keep hB8); have XAn8 := Lib.hid (XAn7.out.keep hB8); have XBn8 := Lib.hid (XBn7.out.keep hB8); have YAn8 := Lib.hid (YAn7.out.keep hB8); have YBn8 := Lib.hid (YBn7.out.keep hB8); have ZAn8 := Lib.hid (ZAn7.out.keep hB8); have BWn8 := Lib.hid (BWn7.out.trans (hB8.mono BWn7.out.size)); clear PAn7 PBn7 XAn7 XBn7 YAn7 YBn7 ZAn7 BWn7 hB8 ; clear t10) | (have _t := t11; go_at_call 42; refine (toReadingS_any q d M hM.out _ PBn8.out).mono ?_; rintro e V9 ⟨b9, rfl, _, _, x9, hB9⟩; have PAn9 := Lib.hid (PAn8.out.keep hB9); have PBn9 := Lib.hid (PBn8.out.keep hB9); have XAn9 := Lib.hid (XAn8.out.keep hB9); have XBn9 := Lib.hid (XBn8.out.keep hB9); have YAn9 := Lib.hid (YAn8.out.keep hB9); have YBn9 := Lib.hid (YBn8.out.keep hB9); have ZAn9 := Lib.hid (ZAn8.out.keep hB9); have ZBn9 := Lib.hid x9; have BWn9 := Lib.hid (BWn8.out.trans (hB9.mono BWn8.out.size)); clear PAn8 PBn8 XAn8 XBn8 YAn8 YBn8 ZAn8 BWn8 hB9 x9; clear t11) | (have _t := t12; go_at_call 44; refine (eqReadingS_yes _ _ _ _ M hM.out _ YBn9.out ZBn9.out).mono ?_; rintro e V10 ⟨rfl, hB10⟩; have PAn10 := Lib.hid (PAn9.out.keep hB10); have PBn10 := Lib.hid (PBn9.out.keep hB10); have XAn10 := Lib.hid (XAn9.out.keep hB10); have XBn10 := Lib.hid (XBn9.out.keep hB10); have YAn10 := Lib.hid (YAn9.out.keep hB10); have YBn10 := Lib.hid (YBn9.out.keep hB10); have ZAn10 := Lib.hid (ZAn9.out.keep hB10); have ZBn10 := Lib.hid (ZBn9.out.keep hB10); have BWn10 := Lib.hid (BWn9.out.trans (hB10.mono BWn9.out.size)); clear PAn9 PBn9 XAn9 XBn9 YAn9 YBn9 ZAn9 ZBn9 BWn9 hB10 ; clear t12))
    go_ret
    exact ⟨rfl, BWn10.out⟩

set_option maxRecDepth 100000 in
theorem fnExactSameReadings_walk (H : Type) (enc : TypeId × Value → H) (W : World) (base : Nat) (args : Array Value) (ds : List (DataW H)) (ps : List MemPlace) (hn : args.size = Try.f13.params.size)
    (hv : ∀ (j : Nat) t v, Try.f13.params[j]? = some t → args[j]? = some v → Value.okWide Try.prog W .any base t v)
    (hA : DataW.TrodAll enc Try.prog W 0 (fun _ => true) true Try.f13.params.toList args.toList ds ps) :
    Calls Try.prog 13 args W fun e W' => e = .returned (.bool true) ∧ Below W.heap.size W W' := by
  rw [Try.params13] at hn hv hA
  obtain ⟨l⟩ := args
  match l, hn with
  | [v0, v1], _ =>
    obtain ⟨u0, us, d0, ds', a0, a1, he, _, _, h0, h1⟩ := trodAll_cons hA
    cases he
    obtain ⟨u1, us', d1, ds'', a2, a3, he, _, _, h1, _⟩ := trodAll_cons h1
    cases he
    obtain ⟨p, c, L, rfl, hL, hp, _⟩ := open_rs (okWide_slice Try.underlying64 (hv 0 _ v0 rfl rfl)) h0
    obtain ⟨q, d, M, rfl, hM, hq, _⟩ := open_rs (okWide_slice Try.underlying64 (hv 1 _ v1 rfl rfl)) h1
    by_cases h1 : L.length ≤ 1048576
    · by_cases h2 : M.length ≤ 1048576 - L.length
      · exact fnExactSameReadings_near p q c d L M h1 h2 W hp hq
      · exact fnExactSameReadings_far2 p q _ _ c d h1 (by omega) hM W
    · exact fnExactSameReadings_far p q _ _ c d (by omega) hL W

set_option maxRecDepth 100000 in
theorem fnExactSameReadings_holds : Rows.FnExactSameReadingsSaid :=
  OpenClaim.holds_of_wide 13 Try.f13 rfl rfl rfl rfl rfl rfl rfl ⟨rfl, rfl, rfl, rfl, rfl⟩ rfl rfl rfl rfl rfl (by kernel_rfl) Try.func13 (by kernel_rfl)
    (of_decide_eq_true (by kernel_rfl)) (by unfold Func.isWrapper; first | (rw [if_pos (by decide +kernel)]; kernel_rfl) | (rw [if_neg (by decide +kernel)]; exact ⟨rfl, rfl⟩))
    (fun os started H enc _ => liftS 13 Try.f13 Rows.fnExactSameReadingsSpec Try.func13 rfl rfl
      (fun H ds h => match ds, h with | [d0, d1], _ => rfl)
      (by rw [Try.params13]; exact (by decide +kernel))
      fnExactSameReadings_walk os started H enc (by kernel_rfl)
      (ChangeSpec.witness6 (enc := enc) (C := Try.checked) false ⟨#[], #[.slice none 0 0, .slice none 0 0], []⟩ 16 (by kernel_rfl) (by kernel_rfl) (by kernel_rfl) (by kernel_rfl)))
#print axioms fnExactSameReadings_holds
end Go.Proofs.Ythklihenghnaeaa
