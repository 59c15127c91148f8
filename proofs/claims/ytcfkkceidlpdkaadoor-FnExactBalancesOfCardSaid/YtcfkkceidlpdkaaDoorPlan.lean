/- Regions that draw their order, by a plan: pure operations and loads are taken first, all else comes up alone. No condition. -/
import Derived.Deep.RegionHeld3
import Derived.Deep.MidRow
import Derived.WalkKit
namespace Go.Proofs.YtcfkkceidlpdkaaDoor
open Go.RowKit

section
variable {P : Program} {ops : Array Oper} {Q : Exit → Act → World → Prop} {md : Region.Mode} {S : World → Prop}

/-- The operations of a region of a program's text, found by its number. -/
def regIn (id : Nat) : Code → Option (Array Oper)
  | .region i ops _ => if i = id then some ops else none
  | .seq a b => match regIn id a with
    | some o => some o
    | none => regIn id b
  | .cond _ a b => match regIn id a with
    | some o => some o
    | none => regIn id b
  | .block _ b => regIn id b
  | .loop b => regIn id b
  | .scope b => regIn id b
  | .rangeFunc _ _ a b => match regIn id a with
    | some o => some o
    | none => regIn id b
  | _ => none
/-- The operations of region 'id' of a function. -/
def regOf (f : Func) (id : Nat) : Array Oper := ((f.body.bind (regIn id)).getD #[])

/-- In which order a region is gone through: number i is taken first; number i comes up alone; one of two comes up. -/
inductive Pl where
  | fin
  | take (i : Nat) (p : Pl)
  | run (i : Nat) (p : Pl)
  | two (i j : Nat) (p q : Pl)

def Pl.len : Pl → Nat
  | .fin => 0
  | .take _ p => p.len + 1
  | .run _ p => p.len + 1
  | .two _ _ p q => max p.len q.len + 1

/-- A plan fits the edges of a region. -/
def planB (md : Region.Mode) (ops : Array Oper) : Pl → Array Bool → Bool
  | .fin, listed => (Region.ready md ops listed).isEmpty
  | .take i r, listed => Region.free md ops listed i && (Region.ready md ops listed).contains i && planB md ops r (listed.setIfInBounds i true)
  | .run i r, listed => (Region.ready md ops listed == [i]) && planB md ops r (listed.setIfInBounds i true)
  | .two i j p q, listed => (Region.ready md ops listed == [i, j]) && planB md ops p (listed.setIfInBounds i true) && planB md ops q (listed.setIfInBounds j true)

/-- What a plan owes. -/
def wpPlan (P : Program) (ops : Array Oper) (Q : Exit → Act → World → Prop) (S : World → Prop) : Pl → Act → World → Prop
  | .fin, a, w => Q .normal a w
  | .take i r, a, w => ∃ oi v, ops[i]? = some oi ∧ YieldsIf P ops S oi v a ∧ wpPlan P ops Q S r (a.put oi.dst v) w
  | .run i r, a, w => wpOp P ops Q i (fun a' w' => S w' ∧ wpPlan P ops Q S r a' w') a w
  | .two i j p q, a, w => wpOp P ops Q i (fun a' w' => S w' ∧ wpPlan P ops Q S p a' w') a w ∧ wpOp P ops Q j (fun a' w' => S w' ∧ wpPlan P ops Q S q a' w') a w

/-- The same, shut: no tactic unfolds it. -/
structure PlanOk (P : Program) (ops : Array Oper) (Q : Exit → Act → World → Prop) (S : World → Prop) (plan : Pl) (a : Act) (w : World) : Prop where
  out : wpPlan P ops Q S plan a w

theorem wpPlan_any (hs : Region.noSelect ops = true) (hQ : ∀ c a d v w, Q (.panic c) (Act.put a d v) w → Q (.panic c) a w) : ∀ (plan : Pl) (fuel : Nat) (listed : Array Bool) (a : Act) (w : World),
    planB md ops plan listed = true → plan.len ≤ fuel → S w → wpPlan P ops Q S plan a w → wpAnyH P md ops Q S fuel listed a w
  | .fin, fuel, listed, a, w, hb, _, _, h => wpAnyH_done (by simpa [planB] using hb) h fuel
  | .take i r, fuel, listed, a, w, hb, hl, hS, h => by
    obtain ⟨oi, v, hi, hy, h⟩ := h
    simp only [planB, Bool.and_eq_true] at hb
    obtain ⟨⟨h1, h2⟩, h3⟩ := hb
    match fuel, hl with
    | fuel + 1, hl =>
      exact wpAnyH_take hi hs h1 h2 (fun c a w => hQ c a _ _ w) hy hS (wpPlan_any hs hQ r fuel _ _ _ h3 (by simpa [Pl.len] using hl) hS h)
  | .run i r, fuel, listed, a, w, hb, hl, hS, h => by
    simp only [planB, Bool.and_eq_true, beq_iff_eq] at hb
    obtain ⟨h1, h3⟩ := hb
    match fuel, hl with
    | fuel + 1, hl =>
      refine wpAnyH_all h1 (by simp) fun j hj => ?_
      obtain rfl : j = i := by simpa using hj
      exact wpOp_mono (fun a' w' h' => ⟨h'.1, wpPlan_any hs hQ r fuel _ _ _ h3 (by simpa [Pl.len] using hl) h'.1 h'.2⟩) h
  | .two i j p q, fuel, listed, a, w, hb, hl, hS, h => by
    simp only [planB, Bool.and_eq_true, beq_iff_eq] at hb
    obtain ⟨⟨h1, h3⟩, h4⟩ := hb
    match fuel, hl with
    | fuel + 1, hl =>
      simp only [Pl.len] at hl
      refine wpAnyH_all h1 (by simp) fun k hk => ?_
      rcases List.mem_cons.1 hk with rfl | hk
      · exact wpOp_mono (fun a' w' h' => ⟨h'.1, wpPlan_any hs hQ p fuel _ _ _ h3 (by omega) h'.1 h'.2⟩) h.1
      · obtain rfl : k = j := by simpa using hk
        exact wpOp_mono (fun a' w' h' => ⟨h'.1, wpPlan_any hs hQ q fuel _ _ _ h4 (by omega) h'.1 h'.2⟩) h.2

/-- THE BEGINNING. -/
theorem wp_region_plan {ops' : Array Oper} {id : Nat} {a : Act} {w : World} (plan : Pl) (S : World → Prop) (hn : ops = ops') (hm : P.follows .mixedOrders = true) (hs : Region.noSelect ops' = true)
    (hb : planB .any ops' plan (Array.replicate ops'.size false) = true) (hl : decide (plan.len ≤ ops'.size) = true) (hS : S w.drew)
    (h : PlanOk P ops' (NoPanic Q) S plan a w.drew) : (Code.region id ops true).wp P Q a w := by
  subst hn
  exact wp_region_noPanic (wp_region_held hm (wpPlan_any hs (fun _ _ _ _ _ h => h) plan _ _ _ _ hb (of_decide_eq_true hl) hS h.out))

theorem region_named {ops' : Array Oper} {id : Nat} {b : Bool} {a : Act} {w : World} (h : ops = ops') (hw : (Code.region id ops' b).wp P Q a w) : (Code.region id ops b).wp P Q a w := h ▸ hw

/-- Operation number i of a region. -/
def opOf (ops : Array Oper) (i : Nat) : Oper := ops.getD i default
theorem opOf_some {i : Nat} (h : decide (i < ops.size) = true) : ops[i]? = some (opOf ops i) := by
  have := of_decide_eq_true h
  simp [opOf, this]

theorem plan_end {a : Act} {w : World} (h : Q .normal a w) : PlanOk P ops Q S .fin a w := ⟨h⟩

/-- An operation that yields its value at once. -/
theorem plan_take {i : Nat} {r : Pl} {a : Act} {w : World} (d : Option Tmp) (v : Value) (hi : decide (i < ops.size) = true) (hd : (opOf ops i).dst = d) (hy : YieldsIf P ops S (opOf ops i) v a)
    (h : PlanOk P ops Q S r (a.put d v) w) : PlanOk P ops Q S (.take i r) a w := by
  subst hd
  exact ⟨⟨_, v, opOf_some hi, hy, h.out⟩⟩
/-- A pure one. -/
theorem plan_pure {i : Nat} {r : Pl} {a : Act} {w : World} (d : Option Tmp) (v : Value) (hi : decide (i < ops.size) = true) (hd : (opOf ops i).dst = d) (hw : Region.wanted (opOf ops i) (yielded ops a.tmps) = true) (hv : ∀ w, (execOp a.eval (opOf ops i)).run P w = .ok (.value v) w)
    (h : PlanOk P ops Q S r (a.put d v) w) : PlanOk P ops Q S (.take i r) a w := plan_take d v hi hd (.inl ⟨hw, fun w _ => hv w⟩) h
/-- One whose guard says no. -/
theorem plan_skip {i : Nat} {r : Pl} {a : Act} {w : World} (d : Option Tmp) (hi : decide (i < ops.size) = true) (hd : (opOf ops i).dst = d) (hw : Region.wanted (opOf ops i) (yielded ops a.tmps) = false)
    (h : PlanOk P ops Q S r (a.put d undef) w) : PlanOk P ops Q S (.take i r) a w := plan_take d undef hi hd (.inr ⟨hw, rfl⟩) h
/-- A load of many cells. -/
theorem plan_load {i : Nat} {r : Pl} {a : Act} {w : World} (d : Option Tmp) (ty : TypeId) (x : Operand) (b o : Nat) (cs : List Value) (D : TypeDesc) (hi : decide (i < ops.size) = true) (hd : (opOf ops i).dst = d) (hw : Region.wanted (opOf ops i) (yielded ops a.tmps) = true)
    (ho : (opOf ops i).op = .load ty x) (hx : a.eval x = .pointer (some ⟨b, o, none⟩)) (hS : ∀ w, S w → w.rangeAt b o cs) (hu : P.underlying ty = some D) (hD : D.isRow = true) (hz : (P.info? ty).map (·.size) = some cs.length)
    (h : PlanOk P ops Q S r (a.put d (.agg cs.toArray)) w) : PlanOk P ops Q S (.take i r) a w := plan_take d _ hi hd (yieldsIf_load_mid hw ty x ho b o hx cs D hS hu hD hz) h

/-- An operation that comes up alone and enters a function. -/
theorem plan_call {i : Nat} {r : Pl} {a : Act} {w : World} (d : Option Tmp) (f : Nat) (args : Array Value) (hi : decide (i < ops.size) = true) (hd : (opOf ops i).dst = d) (hw : Region.wanted (opOf ops i) (yielded ops a.tmps) = true)
    (ho : (execOp a.eval (opOf ops i)).run P w = .ok (.enter f args) w)
    (h : Calls P f args w fun e w' => ∃ v, e = .returned v ∧ S w' ∧ PlanOk P ops Q S r (a.put d v) w') : PlanOk P ops Q S (.run i r) a w := by
  subst hd
  refine ⟨?_⟩
  show wpOp P ops Q i _ a w
  unfold wpOp
  simp only [opOf_some hi, hw, if_true]
  refine .inl ?_
  unfold Oper.wp
  rw [ho]
  refine Calls.mono h fun e w' he => ?_
  obtain ⟨v, rfl, h4, h5⟩ := he
  exact ⟨h4, h5.out⟩

/-- An operation that comes up alone and changes the world. -/
theorem plan_do {i : Nat} {r : Pl} {a : Act} {w : World} (d : Option Tmp) (v : Value) (w' : World) (hi : decide (i < ops.size) = true) (hd : (opOf ops i).dst = d) (hw : Region.wanted (opOf ops i) (yielded ops a.tmps) = true)
    (ho : (execOp a.eval (opOf ops i)).run P w = .ok (.value v) w' ∨ ((execOp a.eval (opOf ops i)).run P w = .ok .skip w' ∧ v = undef))
    (hS : S w') (h : PlanOk P ops Q S r (a.put d v) w') : PlanOk P ops Q S (.run i r) a w := by
  subst hd
  refine ⟨?_⟩
  show wpOp P ops Q i _ a w
  unfold wpOp
  simp only [opOf_some hi, hw, if_true]
  refine .inl ?_
  unfold Oper.wp
  rcases ho with ho | ⟨ho, rfl⟩
  · rw [ho]; exact ⟨hS, h.out⟩
  · rw [ho]; exact ⟨hS, h.out⟩
/-- One of two comes up: both ways. -/
theorem plan_two {i j : Nat} {p q : Pl} {a : Act} {w : World} (h1 : PlanOk P ops Q S (.run i p) a w) (h2 : PlanOk P ops Q S (.run j q) a w) : PlanOk P ops Q S (.two i j p q) a w := ⟨⟨h1.out, h2.out⟩⟩
end
end Go.Proofs.YtcfkkceidlpdkaaDoor
