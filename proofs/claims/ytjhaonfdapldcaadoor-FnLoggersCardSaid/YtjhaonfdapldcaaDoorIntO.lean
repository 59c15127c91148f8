/- Operations on whole numbers that stay in range. Condition: none. -/
import Derived.Test.YtjhaonfdapldcaaDoorBase
namespace Go.Proofs.YtjhaonfdapldcaaDoor
open Go Go.RowKit
set_option linter.unusedSimpArgs false
set_option linter.unusedVariables false
theorem subI {P : Program} {op : Oper} {a : Act} {ty tz : TypeId} {p q : Operand} {x y z : Int} (ho : op.op = .binOp .sub ty p q tz) (hx : a.eval p = .int .i64 x) (hy : a.eval q = .int .i64 y) (hz : z = x - y) (hb : -9223372036854775808 ≤ z ∧ z ≤ 9223372036854775807) (w : World) :
    (execOp a.eval op).run P w = .ok (.value (.int .i64 z)) w := by
  subst hz
  unfold execOp
  simp only [ho, hx, hy]
  go_simp
  simp only [IntWalk.i64_left, IntWalk.wrap64_in _ hb]
theorem addI {P : Program} {op : Oper} {a : Act} {ty tz : TypeId} {p q : Operand} {x y z : Int} (ho : op.op = .binOp .add ty p q tz) (hx : a.eval p = .int .i64 x) (hy : a.eval q = .int .i64 y) (hz : z = x + y) (hb : -9223372036854775808 ≤ z ∧ z ≤ 9223372036854775807) (w : World) :
    (execOp a.eval op).run P w = .ok (.value (.int .i64 z)) w := by
  subst hz
  unfold execOp
  simp only [ho, hx, hy]
  go_simp
  simp only [IntWalk.i64_left, IntWalk.wrap64_in _ hb]
theorem mulI {P : Program} {op : Oper} {a : Act} {ty tz : TypeId} {p q : Operand} {x y z : Int} (ho : op.op = .binOp .mul ty p q tz) (hx : a.eval p = .int .i64 x) (hy : a.eval q = .int .i64 y) (hz : z = x * y) (hb : -9223372036854775808 ≤ z ∧ z ≤ 9223372036854775807) (w : World) :
    (execOp a.eval op).run P w = .ok (.value (.int .i64 z)) w := by
  subst hz
  unfold execOp
  simp only [ho, hx, hy]
  go_simp
  simp only [IntWalk.i64_left, IntWalk.wrap64_in _ hb]
theorem cv16 {op : Oper} {a : Act} {x : Operand} {v : Int} (ho : op.op = .convert 35 2 x) (hx : a.eval x = .int .i16 v) (hv : -32768 ≤ v ∧ v ≤ 32767) (w : World) : (execOp a.eval op).run Tryd.prog w = .ok (.value (.int .i64 v)) w := by
  unfold execOp
  simp only [ho, hx]
  go_simp
  simp only [IntWalk.i64_left]
  rw [IntWalk.wrap64_in v (by omega)]
theorem cv8 {op : Oper} {a : Act} {x : Operand} {v : Int} (ho : op.op = .convert 22 2 x) (hx : a.eval x = .int .i8 v) (hv : -128 ≤ v ∧ v ≤ 127) (w : World) : (execOp a.eval op).run Tryd.prog w = .ok (.value (.int .i64 v)) w := by
  unfold execOp
  simp only [ho, hx]
  go_simp
  simp only [IntWalk.i64_left]
  rw [IntWalk.wrap64_in v (by omega)]
theorem stI64 {op : Oper} {a : Act} {x y : Operand} {w : World} {b o : Nat} {v : Int} (ho : op.op = .store 2 x y) (hx : a.eval x = .pointer (some ⟨b, o, none⟩)) (hy : a.eval y = .int .i64 v) (h : w.there b o 1) :
    (execOp a.eval op).run Tryd.prog w = .ok .skip (w.setCell ⟨b, o, none⟩ (.int .i64 v)) := by
  obtain ⟨h1, h2⟩ := h 0 (by omega)
  rw [Nat.add_zero] at h1 h2
  obtain ⟨u, hu⟩ := Option.isSome_iff_exists.1 h1
  clear h h1
  unfold execOp
  simp only [ho, hx, hy]
  go_simp
section
variable {P : Program} {ops : Array Oper} {rest : List Oper} {o : Oper} {a : Act} {w : World} {Q : Exit → Act → World → Prop}
theorem stS (ty : TypeId) {x y : Operand} (_ : o.op = .store ty x y) (h : wpList P ops Q (o :: rest) a w) : wpList P ops Q (o :: rest) a w := h
theorem ldS (ty : TypeId) {x : Operand} (_ : o.op = .load ty x) (h : wpList P ops Q (o :: rest) a w) : wpList P ops Q (o :: rest) a w := h
end
theorem sizeS (b : Nat) : ∀ (vs : List Value) (o : Nat) (w : World), (w.setCells b o vs).heap.size = w.heap.size
  | [], _, _ => rfl
  | v :: r, o, w => by rw [World.setCells, sizeS b r, World.size_setCell]
theorem frozS {b : Nat} (p : Addr) : ∀ (vs : List Value) (o : Nat) (W : World), (W.setCells b o vs).frozen? p = W.frozen? p
  | [], _, _ => rfl
  | v :: vs, o, W => (frozS p vs (o + 1) (W.setCell ⟨b, o, none⟩ v)).trans (World.frozen?_setCell _ _ _ _)
end Go.Proofs.YtjhaonfdapldcaaDoor
