/- Plain numbers. No condition. -/
import Derived.Test.YtafiiliglbepjaaDoorBase
import Derived.WalkLawsBesides
import Derived.Laws.Bits64b
namespace Go.Proofs.YtafiiliglbepjaaDoor
open Go.RowKit
set_option linter.unusedSimpArgs false

/-- A number is plain. -/
def plainB (b : Nat) : Bool := (FloatKind.f32.format.order b 3380609024 == some Ordering.gt || FloatKind.f32.format.order b 3380609024 == some Ordering.eq) && (FloatKind.f32.format.order b 1233125376 == some Ordering.lt || FloatKind.f32.format.order b 1233125376 == some Ordering.eq)
/-- A number is 0 or -0. -/
def zeroB (b : Nat) : Bool := FloatKind.f32.format.order b 0 == some Ordering.eq
/-- A number is less than 0. -/
def negB (b : Nat) : Bool := FloatKind.f32.format.order b 0 == some Ordering.lt

/-- A number that is plain and at least 0. -/
def amtB (x : Nat) : Bool := plainB x && (FloatKind.f32.format.order x 0 == some Ordering.gt || FloatKind.f32.format.order x 0 == some Ordering.eq)
theorem ord_none {k : FloatKind} {a b : Nat} (h : nanK k a = true) : k.format.order a b = none := by
  rw [nanK_read] at h
  unfold Ieee.Format.order
  cases ha : k.format.read a <;> simp [ha, Ieee.Datum.isNaN] at h
  cases k.format.read b <;> rfl
theorem ord_some {k : FloatKind} {a b : Nat} (h : nanK k a = false) (h2 : nanK k b = false) : ∃ o, k.format.order a b = some o := by
  rw [nanK_read] at h h2
  unfold Ieee.Format.order
  cases ha : k.format.read a <;> simp [ha, Ieee.Datum.isNaN] at h <;> cases hb : k.format.read b <;> simp [hb, Ieee.Datum.isNaN] at h2 <;> exact ⟨_, rfl⟩
theorem nan_zero : nanK .f32 0 = false := by decide +kernel
theorem amtB_eq (x : Nat) : amtB x = (plainB x && !negB x) := by
  cases hp : plainB x
  · simp [amtB, hp]
  · unfold amtB
    rw [hp, Bool.true_and, Bool.true_and]
    unfold negB
    unfold plainB at hp
    have hn : nanK .f32 x = false := by
      cases hn : nanK .f32 x
      · rfl
      · rw [ord_none hn] at hp
        cases hp
    obtain ⟨o, ho⟩ := ord_some hn nan_zero
    rw [ho]
    cases o <;> rfl
set_option maxRecDepth 100000
theorem okWide_i64 {W : World} {r : Reach} {base : Nat} {v : Value} (h : Value.okWide Tryd.prog W r base 2 v) : ∃ n, v = .int .i64 n ∧ -9223372036854775808 ≤ n ∧ n ≤ 9223372036854775807 := by
  have h2 : ∃ n, v = .int .i64 n ∧ IntKind.i64.has n := by
    simp only [Value.okWide, Tryd.underlying2, Cell.okWide] at h
    cases v <;> simp_all [Cell.ok]
  obtain ⟨n, rfl, h3⟩ := h2
  exact ⟨n, rfl, h3.1, h3.2⟩
theorem okWide_f32 {W : World} {r : Reach} {base : Nat} {v : Value} (h : Value.okWide Tryd.prog W r base 22 v) : ∃ n, v = .float .f32 n ∧ FloatKind.f32.has n := by
  simp only [Value.okWide, Tryd.underlying22, Cell.okWide] at h
  cases v <;> simp_all [Cell.ok]

theorem wpList_conv_g {P : Program} {ops : Array Oper} {rest : List Oper} {o : Oper} {a : Act} {w : World} {Q : Exit → Act → World → Prop} (hg : Region.wanted o (yielded ops a.tmps) = true) (src dst : TypeId) (x : Operand)
    (ho : o.op = .convert src dst x) (hs : P.underlying src = some (.float .f32)) (hd : P.underlying dst = some (.float .f64)) (b : Nat) (hx : a.eval x = .float .f32 b)
    (h : ∀ r n, num .f64 r = (num .f32 b).map cv → wpList P ops Q rest (a.put o.dst (.float .f64 r)) (w.drewN n)) : wpList P ops Q (o :: rest) a w :=
  wpList_step fun K hK => by
    rw [if_pos hg]
    obtain ⟨r, n, hr, hrun⟩ := run_conv P w src dst hs hd b
    unfold Oper.wp execOp
    simp only [ho, hx]
    simp only [Sem.run_bind, hrun, Result.andThen]
    exact hK _ _ (h r n hr)

end Go.Proofs.YtafiiliglbepjaaDoor
