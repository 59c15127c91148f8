/- Aquifers and wells: the law's copies, and which are valid: the program's and the model's. No condition. -/
import Derived.Test.YtdhgehmnjoclaaaAqV
import Derived.Test.YtdhgehmnjoclaaaHelp
namespace Go.Proofs.Ytdhgehmnjoclaaa
open Go Go.RowKit Ieee
set_option linter.unusedSimpArgs false
set_option linter.unusedVariables false

def Aq (T S : Nat) : Array Value := #[.float .f32 T, .float .f32 S]
def We (X Y : Int) (R : Nat) : Array Value := #[.int .i8 X, .int .i8 Y, .float .f32 R]
def Pc (x y : Int) : Array Value := #[.int .i64 x, .int .i64 y]
def Sk (X Y : Int) (R : Nat) : Array Value := #[.int .i64 X, .int .i64 Y, .float .f32 R]
def Oc (T S q t : Nat) : Array Value := #[.float .f32 T, .float .f32 S, .float .f32 q, .float .f32 t]
theorem run_store_f32 (P : Program) (w : World) (a : Addr) (m : Mode) (k : FloatKind) (b : Nat) : (store a (.float k b) m).run P w = stored P w a (.float k b) m := run_store P w a _ m rfl
attribute [local go_sem] run_store_f32

/-- An operation on numbers whose result is no NaN. -/
theorem wpList_floatD {P : Program} {ops : Array Oper} {rest : List Oper} {o : Oper} {a : Act} {w : World} {Q : Exit → Act → World → Prop} (hg : o.guard = none) (op : BinOp) (t t' : TypeId) (x y : Operand)
    (ho : o.op = .binOp op t x y t') (hop : arith op = true) (k : FloatKind) (u v r : Nat) (hx : a.eval x = .float k u) (hy : a.eval y = .float k v) (hr : fop k op (num k u) (num k v) = some r)
    (h : wpList P ops Q rest (a.put o.dst (.float k r)) w) : wpList P ops Q (o :: rest) a w :=
  wpList_plain hg fun K hK => by
    rw [fop_num] at hr
    have hrun := run_float_arith (P := P) w op t k u v r hr
    have hq : (eqGuard op t x y (.float k u) (.float k v)).run P w = .ok () w := by
      cases op <;> first | (simp [arith] at hop; done) | simp [eqGuard]
    unfold Oper.wp execOp
    simp only [ho, hx, hy]
    simp only [Sem.run_bind, hq, hrun, Result.andThen]
    exact hK _ _ h

set_option maxRecDepth 100000 in
set_option maxHeartbeats 1000000 in
theorem toWell_any (X Y : Int) (R : Nat) (w : World) : Calls Try.prog 13 #[.agg (We X Y R)] w fun e w' => e = .returned (.agg (We X Y R)) ∧ Below w.heap.size w w' := by
  simp only [Aq, We, Pc, Sk, Oc]
  go_enter Try.func13, Try.ntmps13
  go_wp2
  refine bodyPost_ret (by simp [results, Try.results13, go_sem] <;> rfl) rfl ⟨rfl, ?_⟩
  exact (((Below.refl _ _).alloc (Nat.le_refl _) _).alloc (by simp) _).alloc (by simp; omega) _

set_option maxRecDepth 100000 in
set_option maxHeartbeats 1000000 in
theorem sunk_any (X Y : Int) (R : Nat) (hX : -128 ≤ X ∧ X ≤ 127) (hY : -128 ≤ Y ∧ Y ≤ 127) (w : World) : Calls Try.prog 25 #[.agg (We X Y R)] w fun e w' => e = .returned (.agg (Sk X Y R)) ∧ Below w.heap.size w w' := by
  simp only [Aq, We, Pc, Sk, Oc]
  go_enter Try.func25, Try.ntmps25
  go_wp2
  refine bodyPost_ret (by simp [results, Try.results25, go_sem] <;> rfl) rfl ⟨rfl, ?_⟩
  exact ((Below.refl _ _).alloc (Nat.le_refl _) _).alloc (by simp) _

/-- A Transmit that is one. -/
def trB (T : Nat) : Bool := geB T 981467136 && leBB T 1233125376
end Go.Proofs.Ytdhgehmnjoclaaa
