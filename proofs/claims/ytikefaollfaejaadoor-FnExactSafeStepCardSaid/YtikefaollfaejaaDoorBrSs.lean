/- IsSmallStep: the model's. Conditions: none. -/
import Derived.Test.YtikefaollfaejaaDoorBrRv
import Derived.Test.YtikefaollfaejaaDoorFree
namespace Go.Proofs.YtikefaollfaejaaDoor
open Go.RowKit Go.Shelf
attribute [local go_sem] Oper.semAt_some run_store_float
set_option linter.unusedSimpArgs false
set_option linter.unusedVariables false

/-- The part of its salt that a cell loses. -/
def partO (B : Brn) (x k : Nat) : Option Nat := fop .f32 .quo (fop .f32 .mul (num .f32 x) (outO B.G k)) (num .f32 B.r)
theorem partO_ex (B : Brn) (x k : Nat) : ∃ r, num .f32 r = partO B x k := fop_ex _ _ rfl _ _ (fop_ex _ _ rfl _ _ (num_ex _ _) (outO_ex _ _)) (num_ex _ _)
/-- Is a number at most 1? -/
def le1O : Option Nat → Bool
  | none => false
  | some b => (FloatKind.f32.format.order b 1065353216 == some Ordering.lt || FloatKind.f32.format.order b 1065353216 == some Ordering.eq)
theorem le1O_of {r : Nat} {o : Option Nat} (h : num .f32 r = o) : (FloatKind.f32.format.order r 1065353216 == some Ordering.lt || FloatKind.f32.format.order r 1065353216 == some Ordering.eq) = le1O o := by
  subst h
  cases hn : nanK .f32 r
  · rw [num_some hn]; rfl
  · rw [num_none hn, ord_none hn]; rfl
def smAt (B : Brn) (x i : Nat) : Bool := !frB B.G i || le1O (partO B x i)
def smallB (B : Brn) (x : Nat) : Bool := amtB x && (List.range 64).all (smAt B x)
def smallV (B : Brn) (x : Nat) : Value := if brnB B = true then .tuple #[.bool (smallB B x), .int .i64 0] else .tuple #[.bool false, .int .i64 1]
theorem smallV_is (B : Brn) (x : Nat) : ∃ (a : Bool) (n : Int), smallV B x = .tuple #[.bool a, .int .i64 n] := by
  unfold smallV
  split <;> exact ⟨_, _, rfl⟩

set_option maxRecDepth 100000 in
set_option maxHeartbeats 4000000 in
theorem l05Free_is (B : Brn) (k : Nat) (hk : k < 64) (r : Bool) (hr : frB B.G k = r) (p : Nat) (w : World) (hB : BrnAt w p 0 B) (hG : BrnOk B) :
    Calls Tryd.prog 9 #[.pointer (some ⟨p, 0, none⟩), .int .i64 k] w fun e w' => e = .returned (.bool r) ∧ w = w' := by
  subst hr
  have HB := Lib.hid hB
  have HG := Lib.hid hG
  clear hB hG
  cases hi : isB B.G k
  · have Hi := Lib.hid hi
    rw [show frB B.G k = false by unfold frB; rw [hi]; rfl]
    clear hi
    go_enter Tryd.func9, Tryd.ntmps9
    go_wp2_with (go_at_call 22; refine (l01Is_is B.G k hk false Hi.out _ _ HB.out.g HG.out.g).mono ?_; rintro e w' ⟨rfl, rfl⟩)
    go_ret
    exact ⟨rfl, rfl⟩
  · have Hi := Lib.hid hi
    rw [show frB B.G k = !B.G.x.toNat.testBit k by unfold frB; rw [hi]; rfl]
    clear hi
    go_enter Tryd.func9, Tryd.ntmps9
    go_wp2_with (first | (go_at_call 22; refine (l01Is_is B.G k hk true Hi.out _ _ HB.out.g HG.out.g).mono ?_; rintro e w' ⟨rfl, rfl⟩) | (go_at_call 25; refine (l01Fixed_any B.G k hk _ _ HB.out.g HG.out.g).mono ?_; rintro e w' ⟨rfl, rfl⟩))
    go_ret
    exact ⟨rfl, rfl⟩

theorem Quiet.brn {w w1 : World} (h : Quiet w w1) {b o : Nat} {B : Brn} (g : BrnAt w b o B) : BrnAt w1 b o B := g.below (h.below (b + 1)) (by omega)

end Go.Proofs.YtikefaollfaejaaDoor
