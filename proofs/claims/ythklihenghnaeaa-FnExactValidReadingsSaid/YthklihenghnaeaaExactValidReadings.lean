/- The law FnExactValidReadings of this commit: for every input the call returns true, and each argument reads afterwards as it read before. Condition: none. -/
import Derived.Test.YthklihenghnaeaaVr
namespace Go.Proofs.Ythklihenghnaeaa
open Go Go.ChangeShapes Go.WideShapes Go.ChangeAt Go.RowKit Go.Deep
set_option linter.unusedSimpArgs false
set_option linter.unusedVariables false

theorem szReadingS_yes (p : Option Addr) (n c l : Nat) (h : n ≤ l) (hl : l ≤ 1048576) (w : World) : Calls Try.prog 40 #[.slice p n c, .int .i64 (l : Int)] w fun e w' => e = .returned (.int .i64 ((l : Int) - n)) ∧ w' = w := by
  go_enter Try.func40, Try.ntmps40
  go_wp2
  go_ret
  exact ⟨rfl, rfl⟩
theorem szReadingS_no (p : Option Addr) (n c l : Nat) (h : l < n) (hl : l ≤ 1048576) (hn : n ≤ maxLen) (w : World) : Calls Try.prog 40 #[.slice p n c, .int .i64 (l : Int)] w fun e w' => e = .returned (.int .i64 (-1)) ∧ w' = w := by
  unfold maxLen at hn
  go_enter Try.func40, Try.ntmps40
  go_wp2
  go_ret
  exact ⟨rfl, rfl⟩

set_option maxRecDepth 100000 in
set_option maxHeartbeats 2000000 in
theorem fnExactValidReadings_far (p : Option Addr) (n c : Nat) (hn : 1048576 < n) (hx : n ≤ maxLen) (w : World) : Calls Try.prog 12 #[.slice p n c] w fun e w' => e = .returned (.bool true) ∧ Below w.heap.size w w' := by
  have T := fun V => szReadingS_no p n c 1048576 hn (by omega) hx V
  clear hn hx
  go_enter Try.func12, Try.ntmps12
  go_wp2_with (go_at_call 40; refine (T _).mono ?_; rintro e V ⟨rfl, hV⟩; rw [hV]; clear hV)
  go_ret
  exact ⟨rfl, Below.refl _ _⟩

set_option maxRecDepth 100000 in
set_option maxHeartbeats 4000000 in
theorem fnExactValidReadings_near (p : Option Addr) (c : Nat) (L : List R2) (hn : L.length ≤ 1048576) (w : World) (hp : RsAt w p L) : Calls Try.prog 12 #[.slice p L.length c] w fun e w' => e = .returned (.bool true) ∧ Below w.heap.size w w' := by
  have T := fun V => szReadingS_yes p L.length c 1048576 hn (by omega) V
  have e1 : ((1048576 : Nat) : Int) - (L.length : Int) = ((1048576 - L.length : Nat) : Int) := by omega
  simp only [e1] at T
  obtain ⟨l, hl⟩ : ∃ l, 1048576 - L.length = l := ⟨_, rfl⟩
  have hL := Lib.hid hn
  rw [hl] at T
  have hl2 : l ≤ 1048576 := by omega
  obtain ⟨r, hr⟩ : ∃ r, okRs L = r := ⟨_, rfl⟩
  have T3 := fun (p : Option Addr) (c : Nat) (V : World) (h1 : RsAt V p L) => specVr_any p c L hL.out V h1
  have T4 := fun (p : Option Addr) (c : Nat) (V : World) (h1 : RsAt V p L) => implVr_any p c L hL.out V h1
  rw [hr] at T3 T4
  have PA0 := Lib.hid hp
  have BW0 := Lib.hid (Below.refl w.heap.size w)
  clear hp hn e1 hl hr
  have t1 : True := trivial
  have t2 : True := trivial
  have t3 : True := trivial
  cases r
  all_goals
    go_enter Try.func12, Try.ntmps12
    go_wp2_with (first | (go_at_call 40; refine (T _).mono ?_; rintro e V ⟨rfl, hV⟩; rw [hV]; clear hV) | (have _t := t1; go_at_call 42; refine (toReadingS_any p c L hL.out _ PA0.out).mono ?_; rintro e V1 ⟨b1, rfl, _, _, x1, hB1⟩; have PA1 := Lib.hid (PA0.out.keep hB1); have XA := Lib.hid x1; have BW1 := Lib.hid (BW0.out.trans (hB1.mono BW0.out.size)); clear PA0 BW0 x1 hB1 t1) | (go_at_call 41; refine (T3 _ _ _ XA.out).mono ?_; rintro e V2 ⟨rfl, hB2⟩; have PA2 := Lib.hid (PA1.out.keep hB2); have BW2 := Lib.hid (BW1.out.trans (hB2.mono BW1.out.size)); clear PA1 BW1 XA hB2) | (have _t := t2; go_at_call 42; refine (toReadingS_any p c L hL.out _ PA2.out).mono ?_; rintro e V3 ⟨b2, rfl, _, _, x1, hB1⟩; have PA3 := Lib.hid (PA2.out.keep hB1); have YA := Lib.hid x1; have BW3 := Lib.hid (BW2.out.trans (hB1.mono BW2.out.size)); clear PA2 BW2 x1 hB1 t2) | (go_at_call 43; refine (T4 _ _ _ YA.out).mono ?_; rintro e V4 ⟨rfl, hB2⟩; have PA4 := Lib.hid (PA3.out.keep hB2); have YB := Lib.hid (YA.out.keep hB2); have BW4 := Lib.hid (BW3.out.trans (hB2.mono BW3.out.size)); clear PA3 BW3 YA hB2) | (have _t := t3; go_at_call 42; refine (toReadingS_any p c L hL.out _ PA4.out).mono ?_; rintro e V5 ⟨b3, rfl, _, _, x1, hB1⟩; have YC := Lib.hid (YB.out.keep hB1); have ZA := Lib.hid x1; have BW5 := Lib.hid (BW4.out.trans (hB1.mono BW4.out.size)); clear PA4 BW4 YB x1 hB1 t3) | (go_at_call 44; refine (eqReadingS_yes _ _ _ _ L hL.out _ YC.out ZA.out).mono ?_; rintro e V6 ⟨rfl, hB2⟩; have BW6 := Lib.hid (BW5.out.trans (hB2.mono BW5.out.size)); clear BW5 YC ZA hB2))
    go_ret
    exact ⟨rfl, BW6.out⟩

set_option maxRecDepth 100000 in
theorem fnExactValidReadings_walk (H : Type) (enc : TypeId × Value → H) (W : World) (base : Nat) (args : Array Value) (ds : List (DataW H)) (ps : List MemPlace) (hn : args.size = Try.f12.params.size)
    (hv : ∀ (j : Nat) t v, Try.f12.params[j]? = some t → args[j]? = some v → Value.okWide Try.prog W .any base t v)
    (hA : DataW.TrodAll enc Try.prog W 0 (fun _ => true) true Try.f12.params.toList args.toList ds ps) :
    Calls Try.prog 12 args W fun e W' => e = .returned (.bool true) ∧ Below W.heap.size W W' := by
  rw [Try.params12] at hn hv hA
  obtain ⟨l⟩ := args
  match l, hn with
  | [v0], _ =>
    obtain ⟨u0, us, d0, ds', a0, a1, he, _, _, h0, h1⟩ := trodAll_cons hA
    cases he
    obtain ⟨p, c, L, rfl, hL, hp, _⟩ := open_rs (okWide_slice Try.underlying64 (hv 0 _ v0 rfl rfl)) h0
    by_cases h1 : L.length ≤ 1048576
    · exact fnExactValidReadings_near p c L h1 W hp
    · exact fnExactValidReadings_far p _ c (by omega) hL W

set_option maxRecDepth 100000 in
theorem fnExactValidReadings_holds : Rows.FnExactValidReadingsSaid :=
  OpenClaim.holds_of_wide 12 Try.f12 rfl rfl rfl rfl rfl rfl rfl ⟨rfl, rfl, rfl, rfl, rfl⟩ rfl rfl rfl rfl rfl (by kernel_rfl) Try.func12 (by kernel_rfl)
    (of_decide_eq_true (by kernel_rfl)) (by unfold Func.isWrapper; first | (rw [if_pos (by decide +kernel)]; kernel_rfl) | (rw [if_neg (by decide +kernel)]; exact ⟨rfl, rfl⟩))
    (fun os started H enc _ => liftS 12 Try.f12 Rows.fnExactValidReadingsSpec Try.func12 rfl rfl
      (fun H ds h => match ds, h with | [d0], _ => rfl)
      (by rw [Try.params12]; exact (by decide +kernel))
      fnExactValidReadings_walk os started H enc (by kernel_rfl)
      (ChangeSpec.witness6 (enc := enc) (C := Try.checked) false ⟨#[], #[.slice none 0 0], []⟩ 16 (by kernel_rfl) (by kernel_rfl) (by kernel_rfl) (by kernel_rfl)))
#print axioms fnExactValidReadings_holds
end Go.Proofs.Ythklihenghnaeaa
