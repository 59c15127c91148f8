/- The law FnExactJointOf: for every two numbers the call returns true. Condition: none. -/
import Derived.Test.YtdbkdoehbfgflaaConv
import Derived.ProofKit
namespace Go.Proofs.Ytdbkdoehbfgflaa
open Go.RowKit Go.ChangeShapes Go.WideShapes Go.ChangeAt

/-- Greater than 0, as the walk spells it. -/
def pos (a : Nat) : Bool := FloatKind.f32.format.order a 0 == some Ordering.gt
/-- The joint of two numbers, up to which NaN it is. -/
def joint (a b : Nat) : Option Nat :=
  if (pos a && pos b) = true then fop .f32 .quo (fop .f32 .mul (num .f32 1073741824) (fop .f32 .mul (num .f32 a) (num .f32 b))) (fop .f32 .add (num .f32 a) (num .f32 b)) else num .f32 0

/-- A number that is o, up to which NaN it is; only answers have been drawn. -/
def Gives (o : Option Nat) (w : World) (e : Ending) (w' : World) : Prop := ∃ r n, e = .returned (.float .f32 r) ∧ num .f32 r = o ∧ w' = w.drewN n

set_option maxRecDepth 100000 in
theorem l01Joint_any (a b : Nat) (w : World) : Calls Try.prog 30 #[.float .f32 a, .float .f32 b] w (Gives (joint a b) w) := by
  cases ha : pos a <;> cases hb : pos b
  · have hj : joint a b = num .f32 0 := by simp [joint, ha, hb]
    rw [hj]; clear hj; unfold pos at ha hb
    go_enter Try.func30, Try.ntmps30
    go_wp2
    go_ret
    exact ⟨0, 0, rfl, rfl, rfl⟩
  · have hj : joint a b = num .f32 0 := by simp [joint, ha, hb]
    rw [hj]; clear hj; unfold pos at ha hb
    go_enter Try.func30, Try.ntmps30
    go_wp2
    go_ret
    exact ⟨0, 0, rfl, rfl, rfl⟩
  · have hj : joint a b = num .f32 0 := by simp [joint, ha, hb]
    rw [hj]; clear hj; unfold pos at ha hb
    go_enter Try.func30, Try.ntmps30
    go_wp2
    go_ret
    exact ⟨0, 0, rfl, rfl, rfl⟩
  · have hj : joint a b = fop .f32 .quo (fop .f32 .mul (num .f32 1073741824) (fop .f32 .mul (num .f32 a) (num .f32 b))) (fop .f32 .add (num .f32 a) (num .f32 b)) := by simp [joint, ha, hb]
    have Hj := Lib.hid hj
    clear hj; unfold pos at ha hb
    go_enter Try.func30, Try.ntmps30
    have t1 : True := trivial
    have t2 : True := trivial
    have t3 : True := trivial
    go_wp2_with (first | (have _t := t1; refine wpList_float rfl _ _ _ _ _ rfl rfl .f32 _ _ rfl rfl ?_; intro r1 n1 hr1; have H1 := Lib.hid hr1; clear t1 hr1) | (have _t := t2; refine wpList_float rfl _ _ _ _ _ rfl rfl .f32 _ _ rfl rfl ?_; intro r2 n2 hr2; have H2 := Lib.hid hr2; clear t2 hr2) | (have _t := t3; refine wpList_float rfl _ _ _ _ _ rfl rfl .f32 _ _ rfl rfl ?_; intro r3 n3 hr3; have H3 := Lib.hid hr3; clear t3 hr3) | (refine wpList_float rfl _ _ _ _ _ rfl rfl .f32 _ _ rfl rfl ?_; intro r4 n4 hr4; have H4 := Lib.hid hr4; clear hr4))
    go_ret
    exact ⟨r4, _, rfl, by rw [Hj.out, H4.out, H3.out, H2.out, H1.out], rfl⟩

set_option maxRecDepth 100000 in
theorem jointOf_any (a b : Nat) (w : World) : Calls Try.prog 22 #[.float .f32 a, .float .f32 b] w (Gives (joint a b) w) := by
  cases ha : pos a <;> cases hb : pos b
  · have hj : joint a b = num .f32 0 := by simp [joint, ha, hb]
    rw [hj]; clear hj; unfold pos at ha hb
    go_enter Try.func22, Try.ntmps22
    go_wp2
    go_ret
    exact ⟨0, 0, rfl, rfl, rfl⟩
  · have hj : joint a b = num .f32 0 := by simp [joint, ha, hb]
    rw [hj]; clear hj; unfold pos at ha hb
    go_enter Try.func22, Try.ntmps22
    go_wp2
    go_ret
    exact ⟨0, 0, rfl, rfl, rfl⟩
  · have hj : joint a b = num .f32 0 := by simp [joint, ha, hb]
    rw [hj]; clear hj; unfold pos at ha hb
    go_enter Try.func22, Try.ntmps22
    go_wp2
    go_ret
    exact ⟨0, 0, rfl, rfl, rfl⟩
  · have hj : joint a b = fop .f32 .quo (fop .f32 .mul (num .f32 1073741824) (fop .f32 .mul (num .f32 a) (num .f32 b))) (fop .f32 .add (num .f32 a) (num .f32 b)) := by simp [joint, ha, hb]
    have Hj := Lib.hid hj
    clear hj; unfold pos at ha hb
    go_enter Try.func22, Try.ntmps22
    have t1 : True := trivial
    have t2 : True := trivial
    have t3 : True := trivial
    go_wp2_with (first | (have _t := t1; refine wpList_float rfl _ _ _ _ _ rfl rfl .f32 _ _ rfl rfl ?_; intro r1 n1 hr1; have H1 := Lib.hid hr1; clear t1 hr1) | (have _t := t2; refine wpList_float rfl _ _ _ _ _ rfl rfl .f32 _ _ rfl rfl ?_; intro r2 n2 hr2; have H2 := Lib.hid hr2; clear t2 hr2) | (have _t := t3; refine wpList_float rfl _ _ _ _ _ rfl rfl .f32 _ _ rfl rfl ?_; intro r3 n3 hr3; have H3 := Lib.hid hr3; clear t3 hr3) | (refine wpList_float rfl _ _ _ _ _ rfl rfl .f32 _ _ rfl rfl ?_; intro r4 n4 hr4; have H4 := Lib.hid hr4; clear hr4))
    go_ret
    exact ⟨r4, _, rfl, by rw [Hj.out, H4.out, H3.out, H2.out, H1.out], rfl⟩

set_option maxRecDepth 100000 in
theorem jointLaw_calls (a b : Nat) (w : World) :
    Calls Try.prog 8 #[.float .f32 a, .float .f32 b] w fun e w' => e = .returned (.bool true) ∧ Below w.heap.size w w' := by
  go_enter Try.func8, Try.ntmps8
  go_wp2_with (first | (go_at_call 21; go_in) | fail)
  refine (l01Joint_any a b _).mono ?_
  rintro e w' ⟨r, n, rfl, hr, rfl⟩
  have Hr := Lib.hid hr
  clear hr
  go_wp2_with fail
  refine (jointOf_any a b _).mono ?_
  rintro e w' ⟨r', n', rfl, hr', rfl⟩
  have Hr' := Lib.hid hr'
  clear hr'
  have t1 : True := trivial
  go_wp2_with (first | (have _t := t1; refine wpList_conv rfl _ _ _ rfl Try.underlying24 Try.underlying43 _ rfl ?_; intro x m hx; have X := Lib.hid hx; clear t1 hx) | (refine wpList_conv rfl _ _ _ rfl Try.underlying24 Try.underlying43 _ rfl ?_; intro y m' hy; have Y := Lib.hid hy; clear hy))
  refine (sameFloat_yes x y (by rw [X.out, Y.out, Hr.out, Hr'.out]) _).mono ?_
  rintro e w' ⟨rfl, k, rfl⟩
  go_wp2
  go_ret
  exact ⟨rfl, ⟨rfl, rfl, rfl, Nat.le_refl _, fun _ _ => rfl⟩⟩

theorem fnExactJointOf_walk (W : World) (base : Nat) (args : Array Value) (hn : args.size = Try.f8.params.size)
    (hv : ∀ (j : Nat) t v, Try.f8.params[j]? = some t → args[j]? = some v → Value.okWide Try.prog W .any base t v) :
    Calls Try.prog 8 args W fun e W' => e = .returned (.bool true) ∧ Below W.heap.size W W' := by
  rw [Try.params8] at hn hv
  obtain ⟨l⟩ := args
  match l, hn with
  | [v0, v1], _ =>
    obtain ⟨a, rfl⟩ := okWide_float Try.underlying24 (hv 0 _ v0 rfl rfl)
    obtain ⟨b, rfl⟩ := okWide_float Try.underlying24 (hv 1 _ v1 rfl rfl)
    exact jointLaw_calls a b W
end Go.Proofs.Ytdbkdoehbfgflaa
