/- The law FnExactJointOf: for every two numbers the call returns true. Condition: none. -/
import Derived.Test.YtcfkkceidlpdkaaDoorConv
import Derived.ProofKit
namespace Go.Proofs.YtcfkkceidlpdkaaDoor
open Go.RowKit Go.ChangeShapes Go.WideShapes Go.ChangeAt

/-- Greater than 0, as the walk spells it. -/
def pos (a : Nat) : Bool := FloatKind.f32.format.order a 0 == some Ordering.gt
/-- The joint of two numbers, up to which NaN it is. -/
def joint (a b : Nat) : Option Nat :=
  if (pos a && pos b) = true then fop .f32 .quo (fop .f32 .mul (num .f32 1073741824) (fop .f32 .mul (num .f32 a) (num .f32 b))) (fop .f32 .add (num .f32 a) (num .f32 b)) else num .f32 0

/-- A number that is o, up to which NaN it is; only answers have been drawn. -/
def Gives (o : Option Nat) (w : World) (e : Ending) (w' : World) : Prop := ∃ r n, e = .returned (.float .f32 r) ∧ num .f32 r = o ∧ w' = w.drewN n

set_option maxRecDepth 100000 in
theorem l01Joint_any (a b : Nat) (w : World) : Calls Tryd.prog 100 #[.float .f32 a, .float .f32 b] w (Gives (joint a b) w) := by
  cases ha : pos a <;> cases hb : pos b
  · have hj : joint a b = num .f32 0 := by simp [joint, ha, hb]
    rw [hj]; clear hj; unfold pos at ha hb
    go_enter Tryd.func100, Tryd.ntmps100
    go_wp2
    go_ret
    exact ⟨0, 0, rfl, rfl, rfl⟩
  · have hj : joint a b = num .f32 0 := by simp [joint, ha, hb]
    rw [hj]; clear hj; unfold pos at ha hb
    go_enter Tryd.func100, Tryd.ntmps100
    go_wp2
    go_ret
    exact ⟨0, 0, rfl, rfl, rfl⟩
  · have hj : joint a b = num .f32 0 := by simp [joint, ha, hb]
    rw [hj]; clear hj; unfold pos at ha hb
    go_enter Tryd.func100, Tryd.ntmps100
    go_wp2
    go_ret
    exact ⟨0, 0, rfl, rfl, rfl⟩
  · have hj : joint a b = fop .f32 .quo (fop .f32 .mul (num .f32 1073741824) (fop .f32 .mul (num .f32 a) (num .f32 b))) (fop .f32 .add (num .f32 a) (num .f32 b)) := by simp [joint, ha, hb]
    have Hj := Lib.hid hj
    clear hj; unfold pos at ha hb
    go_enter Tryd.func100, Tryd.ntmps100
    have t1 : True := trivial
    have t2 : True := trivial
    have t3 : True := trivial
    go_wp2_with (first | (have _t := t1; refine wpList_float rfl _ _ _ _ _ rfl rfl .f32 _ _ rfl rfl ?_; intro r1 n1 hr1; have H1 := Lib.hid hr1; clear t1 hr1) | (have _t := t2; refine wpList_float rfl _ _ _ _ _ rfl rfl .f32 _ _ rfl rfl ?_; intro r2 n2 hr2; have H2 := Lib.hid hr2; clear t2 hr2) | (have _t := t3; refine wpList_float rfl _ _ _ _ _ rfl rfl .f32 _ _ rfl rfl ?_; intro r3 n3 hr3; have H3 := Lib.hid hr3; clear t3 hr3) | (refine wpList_float rfl _ _ _ _ _ rfl rfl .f32 _ _ rfl rfl ?_; intro r4 n4 hr4; have H4 := Lib.hid hr4; clear hr4))
    go_ret
    exact ⟨r4, _, rfl, by rw [Hj.out, H4.out, H3.out, H2.out, H1.out], rfl⟩

set_option maxRecDepth 100000 in
theorem jointOf_any (a b : Nat) (w : World) : Calls Tryd.prog 96 #[.float .f32 a, .float .f32 b] w (Gives (joint a b) w) := by
  cases ha : pos a <;> cases hb : pos b
  · have hj : joint a b = num .f32 0 := by simp [joint, ha, hb]
    rw [hj]; clear hj; unfold pos at ha hb
    go_enter Tryd.func96, Tryd.ntmps96
    go_wp2
    go_ret
    exact ⟨0, 0, rfl, rfl, rfl⟩
  · have hj : joint a b = num .f32 0 := by simp [joint, ha, hb]
    rw [hj]; clear hj; unfold pos at ha hb
    go_enter Tryd.func96, Tryd.ntmps96
    go_wp2
    go_ret
    exact ⟨0, 0, rfl, rfl, rfl⟩
  · have hj : joint a b = num .f32 0 := by simp [joint, ha, hb]
    rw [hj]; clear hj; unfold pos at ha hb
    go_enter Tryd.func96, Tryd.ntmps96
    go_wp2
    go_ret
    exact ⟨0, 0, rfl, rfl, rfl⟩
  · have hj : joint a b = fop .f32 .quo (fop .f32 .mul (num .f32 1073741824) (fop .f32 .mul (num .f32 a) (num .f32 b))) (fop .f32 .add (num .f32 a) (num .f32 b)) := by simp [joint, ha, hb]
    have Hj := Lib.hid hj
    clear hj; unfold pos at ha hb
    go_enter Tryd.func96, Tryd.ntmps96
    have t1 : True := trivial
    have t2 : True := trivial
    have t3 : True := trivial
    go_wp2_with (first | (have _t := t1; refine wpList_float rfl _ _ _ _ _ rfl rfl .f32 _ _ rfl rfl ?_; intro r1 n1 hr1; have H1 := Lib.hid hr1; clear t1 hr1) | (have _t := t2; refine wpList_float rfl _ _ _ _ _ rfl rfl .f32 _ _ rfl rfl ?_; intro r2 n2 hr2; have H2 := Lib.hid hr2; clear t2 hr2) | (have _t := t3; refine wpList_float rfl _ _ _ _ _ rfl rfl .f32 _ _ rfl rfl ?_; intro r3 n3 hr3; have H3 := Lib.hid hr3; clear t3 hr3) | (refine wpList_float rfl _ _ _ _ _ rfl rfl .f32 _ _ rfl rfl ?_; intro r4 n4 hr4; have H4 := Lib.hid hr4; clear hr4))
    go_ret
    exact ⟨r4, _, rfl, by rw [Hj.out, H4.out, H3.out, H2.out, H1.out], rfl⟩

end Go.Proofs.YtcfkkceidlpdkaaDoor
