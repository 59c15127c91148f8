/- Aquifers and wells: the law's copies, and which are valid: the program's and the model's. No condition. -/
import Derived.Test.YtecmpdplkaphaaaAqV
import Derived.Test.YtecmpdplkaphaaaHelp
namespace Go.Proofs.Ytecmpdplkaphaaa
open Go Go.RowKit Ieee
set_option linter.unusedSimpArgs false
set_option linter.unusedVariables false

def Aq (T S : Nat) : Array Value := #[.float .f32 T, .float .f32 S]
def We (X Y : Int) (R : Nat) : Array Value := #[.int .i8 X, .int .i8 Y, .float .f32 R]
def Pc (x y : Int) : Array Value := #[.int .i64 x, .int .i64 y]
def Sk (X Y : Int) (R : Nat) : Array Value := #[.int .i64 X, .int .i64 Y, .float .f32 R]
def Oc (T S q t : Nat) : Array Value := #[.float .f32 T, .float .f32 S, .float .f32 q, .float .f32 t]
theorem run_store_f32 (P : Program) (w : World) (a : Addr) (m : Mode) (k : FloatKind) (b : Nat) : (store a (.float k b) m).run P w = stored P w a (.float k b) m := run_store P w a _ m rfl
attribute [local go_sem] run_store_f32

/-- An operation on numbers whose result is no NaN. -/
theorem wpList_floatD {P : Program} {ops : Array Oper} {rest : List Oper} {o : Oper} {a : Act} {w : World} {Q : Exit → Act → World → Prop} (hg : o.guard = none) (op : BinOp) (t t' : TypeId) (x y : Operand)
    (ho : o.op = .binOp op t x y t') (hop : arith op = true) (k : FloatKind) (u v r : Nat) (hx : a.eval x = .float k u) (hy : a.eval y = .float k v) (hr : fop k op (num k u) (num k v) = some r)
    (h : wpList P ops Q rest (a.put o.dst (.float k r)) w) : wpList P ops Q (o :: rest) a w :=
  wpList_plain hg fun K hK => by
    rw [fop_num] at hr
    have hrun := run_float_arith (P := P) w op t k u v r hr
    have hq : (eqGuard op t x y (.float k u) (.float k v)).run P w = .ok () w := by
      cases op <;> first | (simp [arith] at hop; done) | simp [eqGuard]
    unfold Oper.wp execOp
    simp only [ho, hx, hy]
    simp only [Sem.run_bind, hq, hrun, Result.andThen]
    exact hK _ _ h

set_option maxRecDepth 100000 in
set_option maxHeartbeats 1000000 in
theorem ratio_same (a b c : Nat) (n d : Int) (hn : floatOfInt .f32 n = a) (hd : floatOfInt .f32 d = b) (hc : fop .f32 .quo (num .f32 a) (num .f32 b) = some c) (w : World) :
    Calls Try.prog 24 #[.int .i64 n, .int .i64 d] w fun e w' => e = .returned (.float .f32 c) ∧ w = w' := by
  subst hn hd
  go_enter Try.func24, Try.ntmps24
  go_wp2_with (refine wpList_floatD rfl _ _ _ _ _ rfl rfl .f32 _ _ c rfl rfl hc ?_)
  go_ret
  exact ⟨rfl, rfl⟩

/-- A Transmit that is one. -/
def trB (T : Nat) : Bool := geB T 981467136 && leBB T 1233125376
end Go.Proofs.Ytecmpdplkaphaaa
