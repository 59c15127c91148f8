/- Operations on numbers, conversions, loads of one cell, in a region that draws its order. No condition. -/
import Derived.Test.YtcfkkceidlpdkaaDoorCalm
import Derived.Test.YtcfkkceidlpdkaaDoorConv
import Derived.Test.YtcfkkceidlpdkaaDoorCom
namespace Go.Proofs.YtcfkkceidlpdkaaDoor
open Go.RowKit

/-- A number, up to which NaN it is. -/
def Numv (k : FloatKind) (o : Option Nat) : Value → Prop := fun x => ∃ r, x = .float k r ∧ num k r = o
theorem Numv_num (k : FloatKind) (b : Nat) : Numv k (num k b) (.float k b) := ⟨b, rfl, rfl⟩
theorem Numv_some (k : FloatKind) (b : Nat) : ∃ v, Numv k (num k b) v := ⟨_, Numv_num k b⟩

section
variable {P : Program} {ops : Array Oper} {S : World → Prop} {E : Act → Prop}

theorem calm_float {i : Nat} {o : Option Nat} {r : List (Nat × (Value → Prop))} {a : Act} (d : Option Tmp) (k : FloatKind) (op : BinOp) (t t' : TypeId) (x y : Operand) (u v : Nat) (hi : decide (i < ops.size) = true) (hd : (opOf ops i).dst = d) (hw : Region.wanted (opOf ops i) (yielded ops a.tmps) = true)
    (ho : (opOf ops i).op = .binOp op t x y t') (hop : arith op = true) (hx : a.eval x = .float k u) (hy : a.eval y = .float k v) (hS : ∀ w n, S w → S (World.drewN w n)) (hr : fop k op (num k u) (num k v) = o)
    (h : ∀ b, num k b = o → CalmOk P ops S E r (a.put d (.float k b))) : CalmOk P ops S E ((i, Numv k o) :: r) a := by
  refine calm_step d hi hd ?_ (.inl ⟨hw, fun w hSw => ?_⟩) (fun v hv => ?_)
  · obtain ⟨r, n, h1, _⟩ := run_float_any P default op hop t k u v
    exact ⟨.float k r, r, rfl, h1.trans hr⟩
  · obtain ⟨r, n, h1, h2⟩ := run_float_any P w op hop t k u v
    have hq : (eqGuard op t x y (.float k u) (.float k v)).run P w = .ok () w := by
      cases op <;> first | (simp [arith] at hop; done) | simp [eqGuard]
    unfold execOp
    simp only [ho, hx, hy]
    simp only [Sem.run_bind, hq, h2, Result.andThen]
    exact ⟨⟨r, rfl, h1.trans hr⟩, hS w n hSw⟩
  · obtain ⟨b, rfl, hb⟩ := hv
    exact h b hb

theorem calm_conv {i : Nat} {o : Option Nat} {r : List (Nat × (Value → Prop))} {a : Act} (d : Option Tmp) (src dst : TypeId) (x : Operand) (u : Nat) (hi : decide (i < ops.size) = true) (hd : (opOf ops i).dst = d) (hw : Region.wanted (opOf ops i) (yielded ops a.tmps) = true)
    (ho : (opOf ops i).op = .convert src dst x) (hs : P.underlying src = some (.float .f32)) (hdt : P.underlying dst = some (.float .f64)) (hx : a.eval x = .float .f32 u) (hS : ∀ w n, S w → S (World.drewN w n)) (hr : (num .f32 u).map cv = o)
    (h : ∀ b, num .f64 b = o → CalmOk P ops S E r (a.put d (.float .f64 b))) : CalmOk P ops S E ((i, Numv .f64 o) :: r) a := by
  refine calm_step d hi hd ?_ (.inl ⟨hw, fun w hSw => ?_⟩) (fun v hv => ?_)
  · obtain ⟨r, n, h1, _⟩ := run_conv P default src dst hs hdt u
    exact ⟨.float .f64 r, r, rfl, h1.trans hr⟩
  · obtain ⟨r, n, h1, h2⟩ := run_conv P w src dst hs hdt u
    unfold execOp
    simp only [ho, hx]
    simp only [Sem.run_bind, h2, Result.andThen]
    exact ⟨⟨r, rfl, h1.trans hr⟩, hS w n hSw⟩
  · obtain ⟨b, rfl, hb⟩ := hv
    exact h b hb

/-- A load of one cell. -/
theorem load_cell {op : Oper} {a : Act} {ty : TypeId} {x : Operand} {b o : Nat} {v : Value} {w : World} {D : TypeDesc} (ho : op.op = .load ty x) (hx : a.eval x = .pointer (some ⟨b, o, none⟩)) (hu : P.underlying ty = some D) (hD : D.isRow = false)
    (hc : w.cell? ⟨b, o, none⟩ = some v) : (execOp a.eval op).run P w = .ok (.value v) w := by
  have hagg : (isAgg ty).run P w = .ok false w := by
    unfold isAgg
    rw [Sem.run_bind, run_underlying hu w]
    cases D <;> simp_all
  unfold execOp
  simp only [ho, hx]
  go_simp

/-- A store of many cells. -/
theorem store_op {op : Oper} {a : Act} {ty : TypeId} {x y : Operand} {b o : Nat} {cs : Array Value} {w : World} (ho : op.op = .store ty x y) (hx : a.eval x = .pointer (some ⟨b, o, none⟩)) (hy : a.eval y = .agg cs)
    (ht : w.there b o cs.size) (hi : (P.info? ty).map (·.size) = some cs.size) (h1 : cs.all (·.oneCell') = true) : (execOp a.eval op).run P w = .ok .skip (w.setCells b o cs.toList) := by
  unfold execOp
  simp only [ho, hx, hy, Instr.storeAt, Instr.sureAddr, Sem.run_bind, Sem.run_pure, Result.andThen_ok, run_storeVar_mid w b o ty cs ht hi h1]

/-- The address of a field's number. -/
theorem index_fld {op : Oper} {a : Act} {x y : Operand} {b o k : Nat} (ho : op.op = .indexAddr 30 x y) (hx : a.eval x = .pointer (some ⟨b, o, none⟩)) (hy : a.eval y = .int .i64 k) (hk : k < 64) (w : World) :
    (execOp a.eval op).run Tryd.prog w = .ok (.value (.pointer (some ⟨b, o + k, none⟩))) w := by
  unfold execOp
  simp only [ho, hx, hy]
  go_simp
  intro h
  omega
end
end Go.Proofs.YtcfkkceidlpdkaaDoor
