/- The bits of a mask, in ascending order. No condition. · Regions that draw their order, by a plan: pure operations and loads are taken first, all else comes up alone. No condition. · Numbers up to which NaN they are: what the operations give depends on that alone. No condition. · Arrays of 64 numbers and grounds as values: how they read cell by cell. No condition. · Regions that draw their order, by a class of worlds: operations that leave the class alone, whatever they yield within a set, in one order; behind them a plan. No condition. · Narrow numbers made wide, and whether two wide numbers are the same. No condition. · Grounds as values and in memory; the law's copy of a ground is the ground. No condition. · What several texts share: worlds from which only answers have been drawn, boxes, loads of many cells. No condition. · Operations on numbers, conversions, loads of one cell, in a region that draws its order. No condition. · A lemma for every law of this seat whose row lists the table of math/bits: if the call returns true and leaves all memory that was there as it was, wherever the table is laid, the row's step follows. Condition: none of its own. · The program's bitsIn: it goes through the bits of a mask in ascending order. Condition: the table of math/bits is laid. · A value that fits the type of a ground is a ground's. No condition. · A ground in a block of its own, that may be written; what allocs, stores and calls leave of it. No condition. · Whether two fields are equal, as Go compares arrays. No condition. · A range over the bits of a mask, for every loop body; what a loop's book-keeping leaves alone; the end of a function that held such a loop. Condition: the table of math/bits is laid. -/
import Derived.Lib.TrailingZeros
import Derived.Deep.RegionHeld3
import Derived.Deep.MidRow
import Derived.WalkKit
import Derived.Test.YtafiiliglbepjaaDoorRows
import Derived.Laws.FloatArith
import Derived.Laws.Cover2
import Derived.Laws.NewFold
import Derived.Deep.Draws
import Derived.WalkSpells
import Derived.WalkLawsBesides
import Derived.Laws.Rows
import Derived.ProofKit
import Derived.Deep.WholeRow
import Derived.TacticsIn
import Derived.OrdersIn
import Derived.RangeFuncCalls
import Derived.Lib.Hide
import Derived.BigQuiet
import Derived.Deep.QuietTactic
import Derived.Deep.Cut
import Derived.OpenShut
import Derived.LaidMore
import Derived.Lib.LaidTab
import Derived.RangeFuncNested
import Derived.RangeFuncBound
import Derived.RangeFuncLeaves
import Derived.Shelf.Abstract
import Derived.Shelf.RegionOpen
import Derived.Shelf.Spec.TrailingZeros
import Derived.OwnWalkIn
import Derived.TacticsInMore
import Derived.LoopNIn
import Derived.LoopIn
import Derived.Laws.Bits64b
import Derived.ChangeKeysEq
import Derived.Laws.StructEq
namespace Go.Proofs.YtafiiliglbepjaaDoor

section
/-- The numbers of the bits that are set, in ascending order. -/
def bitsL (m : Nat) : List Nat := (List.range 64).filter fun i => m.testBit i

theorem mem_bitsL {m i : Nat} : i ∈ bitsL m ↔ i < 64 ∧ m.testBit i = true := by simp [bitsL]

theorem bitsL_zero : bitsL 0 = [] := by simp [bitsL]

/-- What is left when the lowest bit is struck. -/
theorem testBit_next (k q i : Nat) : ((2 ^ k * (2 * q + 1)) &&& (2 ^ k * (2 * q + 1) - 1)).testBit i = ((2 ^ k * (2 * q + 1)).testBit i && decide (i ≠ k)) := by
  have hp := Nat.two_pow_pos k
  have e : 2 ^ k * (2 * q + 1) - 1 = 2 ^ k * (2 * q) + (2 ^ k - 1) := by
    rw [Nat.mul_add, Nat.mul_one]; omega
  rw [Nat.testBit_and, e, Nat.testBit_two_pow_mul_add _ (by omega), Nat.testBit_two_pow_sub_one]
  rw [Nat.mul_comm (2 ^ k), Nat.testBit_mul_two_pow]
  by_cases h1 : i < k
  · have : ¬ k ≤ i := by omega
    simp [this]
  · by_cases h2 : i = k
    · subst h2
      simp
    · obtain ⟨j, rfl⟩ : ∃ j, i = k + (j + 1) := ⟨i - k - 1, by omega⟩
      have e3 : k + (j + 1) - k = j + 1 := by omega
      have d1 : (2 * q + 1) / 2 = q := by omega
      have d2 : 2 * q / 2 = q := by omega
      simp only [e3, Nat.testBit_succ, d1, d2]
      simp
      intro h
      exact .inr h

theorem bitsL_cons {m : Nat} (h0 : m ≠ 0) (h : m < 2 ^ 64) : bitsL m = Lib.ctz 64 m :: bitsL (m &&& (m - 1)) := by
  obtain ⟨q, hq, hk⟩ := Lib.ctzFrom_spec 64 m (by omega) h
  have e : Lib.ctz 64 m = Lib.ctzFrom 64 m := by simp [Lib.ctz, h0]
  rw [e]
  generalize Lib.ctzFrom 64 m = k at hq hk
  have hb : ∀ i, m.testBit i = (decide (k ≤ i) && (2 * q + 1).testBit (i - k)) := fun i => by
    rw [hq, Nat.mul_comm (2 ^ k), Nat.testBit_mul_two_pow]
  have hn : ∀ i, (m &&& (m - 1)).testBit i = (m.testBit i && decide (i ≠ k)) := fun i => by
    rw [hq]; exact testBit_next k q i
  have hr : List.range 64 = List.range k ++ k :: List.range' (k + 1) (63 - k) := by
    rw [List.range_eq_range', List.range_eq_range', ← List.range'_succ]
    have := @List.range'_append 0 k (63 - k + 1) 1
    rw [Nat.one_mul, Nat.zero_add] at this
    rw [this]
    congr 1
    omega
  unfold bitsL
  rw [hr, List.filter_append, List.filter_append, List.filter_cons, List.filter_cons]
  have z1 : (List.range k).filter (fun i => m.testBit i) = [] := by
    rw [List.filter_eq_nil_iff]
    intro i hi
    have : ¬ k ≤ i := by simp at hi; omega
    simp [hb, this]
  have z2 : (List.range k).filter (fun i => (m &&& (m - 1)).testBit i) = [] := by
    rw [List.filter_eq_nil_iff]
    intro i hi
    have : ¬ k ≤ i := by simp at hi; omega
    simp [hn, hb, this]
  have o1 : m.testBit k = true := by simp [hb]
  have o2 : (m &&& (m - 1)).testBit k = false := by simp [hn]
  rw [z1, z2, if_pos o1, if_neg (by simp [o2])]
  simp only [List.nil_append, List.cons.injEq, true_and]
  refine List.filter_congr fun i hi => ?_
  have : i ≠ k := by simp [List.mem_range'] at hi; omega
  simp [hn, this]
end

section
open Go.RowKit

section
variable {P : Program} {ops : Array Oper} {Q : Exit → Act → World → Prop} {md : Region.Mode} {S : World → Prop}

/-- The operations of a region of a program's text, found by its number. -/
def regIn (id : Nat) : Code → Option (Array Oper)
  | .region i ops _ => if i = id then some ops else none
  | .seq a b => match regIn id a with
    | some o => some o
    | none => regIn id b
  | .cond _ a b => match regIn id a with
    | some o => some o
    | none => regIn id b
  | .block _ b => regIn id b
  | .loop b => regIn id b
  | .scope b => regIn id b
  | .rangeFunc _ _ a b => match regIn id a with
    | some o => some o
    | none => regIn id b
  | _ => none
/-- The operations of region 'id' of a function. -/
def regOf (f : Func) (id : Nat) : Array Oper := ((f.body.bind (regIn id)).getD #[])

/-- In which order a region is gone through: number i is taken first; number i comes up alone; one of two comes up. -/
inductive Pl where
  | fin
  | take (i : Nat) (p : Pl)
  | run (i : Nat) (p : Pl)
  | two (i j : Nat) (p q : Pl)

def Pl.len : Pl → Nat
  | .fin => 0
  | .take _ p => p.len + 1
  | .run _ p => p.len + 1
  | .two _ _ p q => max p.len q.len + 1

/-- A plan fits the edges of a region. -/
def planB (md : Region.Mode) (ops : Array Oper) : Pl → Array Bool → Bool
  | .fin, listed => (Region.ready md ops listed).isEmpty
  | .take i r, listed => Region.free md ops listed i && (Region.ready md ops listed).contains i && planB md ops r (listed.setIfInBounds i true)
  | .run i r, listed => (Region.ready md ops listed == [i]) && planB md ops r (listed.setIfInBounds i true)
  | .two i j p q, listed => (Region.ready md ops listed == [i, j]) && planB md ops p (listed.setIfInBounds i true) && planB md ops q (listed.setIfInBounds j true)

/-- What a plan owes. -/
def wpPlan (P : Program) (ops : Array Oper) (Q : Exit → Act → World → Prop) (S : World → Prop) : Pl → Act → World → Prop
  | .fin, a, w => Q .normal a w
  | .take i r, a, w => ∃ oi v, ops[i]? = some oi ∧ YieldsIf P ops S oi v a ∧ wpPlan P ops Q S r (a.put oi.dst v) w
  | .run i r, a, w => wpOp P ops Q i (fun a' w' => S w' ∧ wpPlan P ops Q S r a' w') a w
  | .two i j p q, a, w => wpOp P ops Q i (fun a' w' => S w' ∧ wpPlan P ops Q S p a' w') a w ∧ wpOp P ops Q j (fun a' w' => S w' ∧ wpPlan P ops Q S q a' w') a w

/-- The same, shut: no tactic unfolds it. -/
structure PlanOk (P : Program) (ops : Array Oper) (Q : Exit → Act → World → Prop) (S : World → Prop) (plan : Pl) (a : Act) (w : World) : Prop where
  out : wpPlan P ops Q S plan a w

theorem wpPlan_any (hs : Region.noSelect ops = true) (hQ : ∀ c a d v w, Q (.panic c) (Act.put a d v) w → Q (.panic c) a w) : ∀ (plan : Pl) (fuel : Nat) (listed : Array Bool) (a : Act) (w : World),
    planB md ops plan listed = true → plan.len ≤ fuel → S w → wpPlan P ops Q S plan a w → wpAnyH P md ops Q S fuel listed a w
  | .fin, fuel, listed, a, w, hb, _, _, h => wpAnyH_done (by simpa [planB] using hb) h fuel
  | .take i r, fuel, listed, a, w, hb, hl, hS, h => by
    obtain ⟨oi, v, hi, hy, h⟩ := h
    simp only [planB, Bool.and_eq_true] at hb
    obtain ⟨⟨h1, h2⟩, h3⟩ := hb
    match fuel, hl with
    | fuel + 1, hl =>
      exact wpAnyH_take hi hs h1 h2 (fun c a w => hQ c a _ _ w) hy hS (wpPlan_any hs hQ r fuel _ _ _ h3 (by simpa [Pl.len] using hl) hS h)
  | .run i r, fuel, listed, a, w, hb, hl, hS, h => by
    simp only [planB, Bool.and_eq_true, beq_iff_eq] at hb
    obtain ⟨h1, h3⟩ := hb
    match fuel, hl with
    | fuel + 1, hl =>
      refine wpAnyH_all h1 (by simp) fun j hj => ?_
      obtain rfl : j = i := by simpa using hj
      exact wpOp_mono (fun a' w' h' => ⟨h'.1, wpPlan_any hs hQ r fuel _ _ _ h3 (by simpa [Pl.len] using hl) h'.1 h'.2⟩) h
  | .two i j p q, fuel, listed, a, w, hb, hl, hS, h => by
    simp only [planB, Bool.and_eq_true, beq_iff_eq] at hb
    obtain ⟨⟨h1, h3⟩, h4⟩ := hb
    match fuel, hl with
    | fuel + 1, hl =>
      simp only [Pl.len] at hl
      refine wpAnyH_all h1 (by simp) fun k hk => ?_
      rcases List.mem_cons.1 hk with rfl | hk
      · exact wpOp_mono (fun a' w' h' => ⟨h'.1, wpPlan_any hs hQ p fuel _ _ _ h3 (by omega) h'.1 h'.2⟩) h.1
      · obtain rfl : k = j := by simpa using hk
        exact wpOp_mono (fun a' w' h' => ⟨h'.1, wpPlan_any hs hQ q fuel _ _ _ h4 (by omega) h'.1 h'.2⟩) h.2

/-- THE BEGINNING. -/
theorem wp_region_plan {ops' : Array Oper} {id : Nat} {a : Act} {w : World} (plan : Pl) (S : World → Prop) (hn : ops = ops') (hm : P.follows .mixedOrders = true) (hs : Region.noSelect ops' = true)
    (hb : planB .any ops' plan (Array.replicate ops'.size false) = true) (hl : decide (plan.len ≤ ops'.size) = true) (hS : S w.drew)
    (h : PlanOk P ops' (NoPanic Q) S plan a w.drew) : (Code.region id ops true).wp P Q a w := by
  subst hn
  exact wp_region_noPanic (wp_region_held hm (wpPlan_any hs (fun _ _ _ _ _ h => h) plan _ _ _ _ hb (of_decide_eq_true hl) hS h.out))

theorem region_named {ops' : Array Oper} {id : Nat} {b : Bool} {a : Act} {w : World} (h : ops = ops') (hw : (Code.region id ops' b).wp P Q a w) : (Code.region id ops b).wp P Q a w := h ▸ hw

/-- Operation number i of a region. -/
def opOf (ops : Array Oper) (i : Nat) : Oper := ops.getD i default
theorem opOf_some {i : Nat} (h : decide (i < ops.size) = true) : ops[i]? = some (opOf ops i) := by
  have := of_decide_eq_true h
  simp [opOf, this]

theorem plan_end {a : Act} {w : World} (h : Q .normal a w) : PlanOk P ops Q S .fin a w := ⟨h⟩

/-- An operation that yields its value at once. -/
theorem plan_take {i : Nat} {r : Pl} {a : Act} {w : World} (d : Option Tmp) (v : Value) (hi : decide (i < ops.size) = true) (hd : (opOf ops i).dst = d) (hy : YieldsIf P ops S (opOf ops i) v a)
    (h : PlanOk P ops Q S r (a.put d v) w) : PlanOk P ops Q S (.take i r) a w := by
  subst hd
  exact ⟨⟨_, v, opOf_some hi, hy, h.out⟩⟩
/-- A pure one. -/
theorem plan_pure {i : Nat} {r : Pl} {a : Act} {w : World} (d : Option Tmp) (v : Value) (hi : decide (i < ops.size) = true) (hd : (opOf ops i).dst = d) (hw : Region.wanted (opOf ops i) (yielded ops a.tmps) = true) (hv : ∀ w, (execOp a.eval (opOf ops i)).run P w = .ok (.value v) w)
    (h : PlanOk P ops Q S r (a.put d v) w) : PlanOk P ops Q S (.take i r) a w := plan_take d v hi hd (.inl ⟨hw, fun w _ => hv w⟩) h
/-- One whose guard says no. -/
theorem plan_skip {i : Nat} {r : Pl} {a : Act} {w : World} (d : Option Tmp) (hi : decide (i < ops.size) = true) (hd : (opOf ops i).dst = d) (hw : Region.wanted (opOf ops i) (yielded ops a.tmps) = false)
    (h : PlanOk P ops Q S r (a.put d undef) w) : PlanOk P ops Q S (.take i r) a w := plan_take d undef hi hd (.inr ⟨hw, rfl⟩) h
/-- A load of many cells. -/
theorem plan_load {i : Nat} {r : Pl} {a : Act} {w : World} (d : Option Tmp) (ty : TypeId) (x : Operand) (b o : Nat) (cs : List Value) (D : TypeDesc) (hi : decide (i < ops.size) = true) (hd : (opOf ops i).dst = d) (hw : Region.wanted (opOf ops i) (yielded ops a.tmps) = true)
    (ho : (opOf ops i).op = .load ty x) (hx : a.eval x = .pointer (some ⟨b, o, none⟩)) (hS : ∀ w, S w → w.rangeAt b o cs) (hu : P.underlying ty = some D) (hD : D.isRow = true) (hz : (P.info? ty).map (·.size) = some cs.length)
    (h : PlanOk P ops Q S r (a.put d (.agg cs.toArray)) w) : PlanOk P ops Q S (.take i r) a w := plan_take d _ hi hd (yieldsIf_load_mid hw ty x ho b o hx cs D hS hu hD hz) h

/-- An operation that comes up alone and enters a function. -/
theorem plan_call {i : Nat} {r : Pl} {a : Act} {w : World} (d : Option Tmp) (f : Nat) (args : Array Value) (hi : decide (i < ops.size) = true) (hd : (opOf ops i).dst = d) (hw : Region.wanted (opOf ops i) (yielded ops a.tmps) = true)
    (ho : (execOp a.eval (opOf ops i)).run P w = .ok (.enter f args) w)
    (h : Calls P f args w fun e w' => ∃ v, e = .returned v ∧ S w' ∧ PlanOk P ops Q S r (a.put d v) w') : PlanOk P ops Q S (.run i r) a w := by
  subst hd
  refine ⟨?_⟩
  show wpOp P ops Q i _ a w
  unfold wpOp
  simp only [opOf_some hi, hw, if_true]
  refine .inl ?_
  unfold Oper.wp
  rw [ho]
  refine Calls.mono h fun e w' he => ?_
  obtain ⟨v, rfl, h4, h5⟩ := he
  exact ⟨h4, h5.out⟩

/-- An operation that comes up alone and changes the world. -/
theorem plan_do {i : Nat} {r : Pl} {a : Act} {w : World} (d : Option Tmp) (v : Value) (w' : World) (hi : decide (i < ops.size) = true) (hd : (opOf ops i).dst = d) (hw : Region.wanted (opOf ops i) (yielded ops a.tmps) = true)
    (ho : (execOp a.eval (opOf ops i)).run P w = .ok (.value v) w' ∨ ((execOp a.eval (opOf ops i)).run P w = .ok .skip w' ∧ v = undef))
    (hS : S w') (h : PlanOk P ops Q S r (a.put d v) w') : PlanOk P ops Q S (.run i r) a w := by
  subst hd
  refine ⟨?_⟩
  show wpOp P ops Q i _ a w
  unfold wpOp
  simp only [opOf_some hi, hw, if_true]
  refine .inl ?_
  unfold Oper.wp
  rcases ho with ho | ⟨ho, rfl⟩
  · rw [ho]; exact ⟨hS, h.out⟩
  · rw [ho]; exact ⟨hS, h.out⟩
/-- One of two comes up: both ways. -/
theorem plan_two {i j : Nat} {p q : Pl} {a : Act} {w : World} (h1 : PlanOk P ops Q S (.run i p) a w) (h2 : PlanOk P ops Q S (.run j q) a w) : PlanOk P ops Q S (.two i j p q) a w := ⟨⟨h1.out, h2.out⟩⟩
end
end

section
open Go.RowKit Ieee

/-- A number of a kind that is none, as the walk spells it. -/
def nanK (k : FloatKind) (a : Nat) : Bool := k.format.order a a != some Ordering.eq
/-- A number up to which NaN it is. -/
def num (k : FloatKind) (a : Nat) : Option Nat := if nanK k a = true then none else some a

theorem nanK_read (k : FloatKind) (a : Nat) : nanK k a = (k.format.read a).isNaN := by
  unfold nanK Format.order Datum.isNaN
  cases k.format.read a with
  | number s m i => simp [Datum.order]
  | infinity s => simp [Datum.order]
  | nan s f => simp [Datum.order]

theorem num_none {k : FloatKind} {a : Nat} (h : nanK k a = true) : num k a = none := by simp [num, h]
theorem num_some {k : FloatKind} {a : Nat} (h : nanK k a = false) : num k a = some a := by simp [num, h]
theorem num_eq_none {k : FloatKind} {a : Nat} (h : num k a = none) : nanK k a = true := by
  unfold num at h; split at h
  · assumption
  · cases h
theorem num_eq_some {k : FloatKind} {a b : Nat} (h : num k a = some b) : a = b ∧ nanK k a = false := by
  unfold num at h; split at h
  · cases h
  · rename_i hn
    exact ⟨by simpa using h, by simpa using hn⟩

theorem infRung_lt_sign (k : FloatKind) : k.format.infRung < k.format.signWeight := by cases k <;> decide +kernel

theorem read_word (k : FloatKind) (neg : Bool) (rung : Nat) (h : rung ≤ k.format.infRung) : (k.format.read (k.format.word neg rung)).isNaN = false := by
  have hs := infRung_lt_sign k
  have hm : k.format.word neg rung % k.format.signWeight = rung := by
    unfold Format.word
    cases neg
    · simp [Nat.mod_eq_of_lt (by omega : rung < k.format.signWeight)]
    · simp [Nat.mod_eq_of_lt (by omega : rung < k.format.signWeight)]
  unfold Format.read
  simp only [hm]
  split
  · rfl
  · split
    · rfl
    · split
      · rfl
      · omega

theorem nearest_le (k : FloatKind) (neg : Bool) (mag : Nat) (place : Int) : (k.format.read (k.format.nearest neg mag place)).isNaN = false := by
  unfold Format.nearest
  split
  · exact read_word k neg 0 (Nat.zero_le _)
  · exact read_word k neg _ (Nat.min_le_right _ _)

theorem write_notnan (k : FloatKind) (d : Datum) (h : d.isNaN = false) : nanK k (k.format.write d) = false := by
  rw [nanK_read]
  cases d with
  | number s m i => exact nearest_le k s m i
  | infinity s => exact read_word k s _ (Nat.le_refl _)
  | nan s f => simp [Datum.isNaN] at h

theorem sum_notnan {x y d : Datum} (h : x.sum y = some d) : d.isNaN = false := by
  cases x <;> cases y <;> simp only [Datum.sum] at h <;> first | (cases h; done) | skip
  · obtain rfl := Option.some.inj h; rfl
  · obtain rfl := Option.some.inj h; rfl
  · obtain rfl := Option.some.inj h; rfl
  · split at h
    · obtain rfl := Option.some.inj h; rfl
    · cases h
theorem product_notnan {x y d : Datum} (h : x.product y = some d) : d.isNaN = false := by
  cases x <;> cases y <;> simp only [Datum.product] at h <;> first | (cases h; done) | skip
  · obtain rfl := Option.some.inj h; rfl
  · split at h
    · cases h
    · obtain rfl := Option.some.inj h; rfl
  · split at h
    · cases h
    · obtain rfl := Option.some.inj h; rfl
  · obtain rfl := Option.some.inj h; rfl
theorem quotient_notnan {n : Nat} {x y d : Datum} (h : x.quotient n y = some d) : d.isNaN = false := by
  cases x <;> cases y <;> simp only [Datum.quotient] at h <;> first | (cases h; done) | skip
  all_goals first
    | (obtain rfl := Option.some.inj h; rfl)
    | (split at h
       · split at h
         · cases h
         · obtain rfl := Option.some.inj h; rfl
       · obtain rfl := Option.some.inj h; rfl)
theorem opposite_nan (x : Datum) : x.opposite.isNaN = x.isNaN := by cases x <;> rfl

theorem floatBits_notnan {op : BinOp} {k : FloatKind} {x y r : Nat} (h : floatBits op k x y = some r) : nanK k r = false := by
  unfold floatBits at h
  split at h
  · simp only [Format.add, Option.map_eq_some_iff] at h
    obtain ⟨d, hd, rfl⟩ := h
    exact write_notnan k d (sum_notnan hd)
  · simp only [Format.sub, Option.map_eq_some_iff] at h
    obtain ⟨d, hd, rfl⟩ := h
    exact write_notnan k d (sum_notnan hd)
  · simp only [Format.mul, Option.map_eq_some_iff] at h
    obtain ⟨d, hd, rfl⟩ := h
    exact write_notnan k d (product_notnan hd)
  · simp only [Format.div, Option.map_eq_some_iff] at h
    obtain ⟨d, hd, rfl⟩ := h
    exact write_notnan k d (quotient_notnan hd)
  · cases h

theorem floatBits_nan {op : BinOp} {k : FloatKind} {x y : Nat} (h : nanK k x = true ∨ nanK k y = true) : floatBits op k x y = none := by
  simp only [nanK_read] at h
  unfold floatBits
  cases op <;> simp only [Format.add, Format.sub, Format.mul, Format.div]
  all_goals
    cases hx : k.format.read x <;> cases hy : k.format.read y <;> simp [hx, hy, Datum.isNaN] at h <;> simp [Datum.sum, Datum.product, Datum.quotient, Datum.opposite]

/-- What an operation gives, up to which NaN it is. -/
def fop (k : FloatKind) (op : BinOp) (x y : Option Nat) : Option Nat := x.bind fun a => y.bind fun b => floatBits op k a b
theorem fop_num (k : FloatKind) (op : BinOp) (x y : Nat) : fop k op (num k x) (num k y) = floatBits op k x y := by
  cases hx : nanK k x
  · cases hy : nanK k y
    · simp [fop, num_some hx, num_some hy]
    · simp [fop, num_none hy, floatBits_nan (.inr hy)]
  · simp [fop, num_none hx, floatBits_nan (.inl hx)]

theorem order_num {k : FloatKind} {x x' y y' : Nat} (hx : num k x = num k x') (hy : num k y = num k y') : k.format.order x y = k.format.order x' y' := by
  have nl : ∀ {a b : Nat}, nanK k a = true → k.format.order a b = none := fun {a b} h => by
    rw [nanK_read] at h
    unfold Format.order
    cases ha : k.format.read a <;> simp [ha, Datum.isNaN] at h
    cases k.format.read b <;> rfl
  have nr : ∀ {a b : Nat}, nanK k b = true → k.format.order a b = none := fun {a b} h => by
    rw [nanK_read] at h
    unfold Format.order
    cases hb : k.format.read b <;> simp [hb, Datum.isNaN] at h
    cases k.format.read a <;> rfl
  cases h1 : num k x' with
  | none =>
    rw [h1] at hx
    rw [nl (num_eq_none hx), nl (num_eq_none h1)]
  | some a =>
    rw [h1] at hx
    cases h2 : num k y' with
    | none =>
      rw [h2] at hy
      rw [nr (num_eq_none hy), nr (num_eq_none h2)]
    | some b =>
      rw [h2] at hy
      rw [(num_eq_some hx).1, (num_eq_some hy).1, (num_eq_some h1).1, (num_eq_some h2).1]

theorem read_nan (k : FloatKind) (s r : Nat) (h : 0 < r) (h2 : k.format.infRung + r < k.format.signWeight) : (k.format.read (s * k.format.signWeight + (k.format.infRung + r))).isNaN = true := by
  have hb : k.format.binade ≤ k.format.infRung := by cases k <;> decide +kernel
  have hm : (s * k.format.signWeight + (k.format.infRung + r)) % k.format.signWeight = k.format.infRung + r := by
    rw [Nat.mul_comm, Nat.mul_add_mod, Nat.mod_eq_of_lt h2]
  unfold Format.read
  simp only [hm]
  rw [if_neg (by omega), if_neg (by omega), if_neg (by omega)]
  rfl

theorem rest_lt (t n : Nat) (h : 0 < n) : 1 + t % n < n + 1 := by have := Nat.mod_lt t h; omega

theorem cut_nan (k : FloatKind) (x y t : Nat) : nanK k ((Question.nanBits k x y).cut t) = true := by
  rw [nanK_read]
  cases k
  · have e : (Question.nanBits .f32 x y).cut t = (t % 2) * FloatKind.f32.format.signWeight + (FloatKind.f32.format.infRung + (1 + t / 2 % (2 ^ 23 - 1))) := by
      show t % 2 * 2 ^ 31 + 0x7f800000 + 1 + t / 2 % (2 ^ 23 - 1) = t % 2 * 2 ^ 31 + (0x7f800000 + (1 + t / 2 % (2 ^ 23 - 1)))
      rw [Nat.add_assoc, Nat.add_assoc]
    rw [e]
    refine read_nan .f32 _ _ (by omega) ?_
    have h1 := rest_lt (t / 2) (2 ^ 23 - 1) (by decide)
    have h2 : FloatKind.f32.format.infRung + (2 ^ 23 - 1 + 1) = FloatKind.f32.format.signWeight := by decide +kernel
    rw [← h2]
    exact Nat.add_lt_add_left h1 _
  · have e : (Question.nanBits .f64 x y).cut t = (t % 2) * FloatKind.f64.format.signWeight + (FloatKind.f64.format.infRung + (1 + t / 2 % (2 ^ 52 - 1))) := by
      show t % 2 * 2 ^ 63 + 0x7ff0000000000000 + 1 + t / 2 % (2 ^ 52 - 1) = t % 2 * 2 ^ 63 + (0x7ff0000000000000 + (1 + t / 2 % (2 ^ 52 - 1)))
      rw [Nat.add_assoc, Nat.add_assoc]
    rw [e]
    refine read_nan .f64 _ _ (by omega) ?_
    have h1 := rest_lt (t / 2) (2 ^ 52 - 1) (by decide)
    have h2 : FloatKind.f64.format.infRung + (2 ^ 52 - 1 + 1) = FloatKind.f64.format.signWeight := by decide +kernel
    rw [← h2]
    exact Nat.add_lt_add_left h1 _

/-- The four operations. -/
def arith : BinOp → Bool
  | .add | .sub | .mul | .quo => true
  | _ => false

theorem run_float_any (P : Program) (w : World) (op : BinOp) (hop : arith op = true) (t : TypeId) (k : FloatKind) (x y : Nat) :
    ∃ r n, num k r = fop k op (num k x) (num k y) ∧ (binOp op t (.float k x) (.float k y)).run P w = .ok (.float k r) (w.drewN n) := by
  cases h : floatBits op k x y with
  | some r =>
    refine ⟨r, 0, ?_, ?_⟩
    · rw [fop_num, h, num_some (floatBits_notnan h)]
    · exact run_float_arith w op t k x y r h
  | none =>
    refine ⟨(Question.nanBits k x y).cut (w.tape w.drawn (.nanBits k x y)), 1, ?_, ?_⟩
    · rw [fop_num, h, num_none (cut_nan _ _ _ _)]
    · unfold floatBits at h
      cases op <;> simp only [arith, Bool.false_eq_true] at hop <;> simp only at h <;>
        simp [binOp, Op.floatArith, h, Question.forced, World.drew_is_drewN]

/-- AN OPERATION ON NUMBERS, IN A WALK. -/
theorem wpList_float {P : Program} {ops : Array Oper} {rest : List Oper} {o : Oper} {a : Act} {w : World} {Q : Exit → Act → World → Prop} (hg : o.guard = none) (op : BinOp) (t t' : TypeId) (x y : Operand)
    (ho : o.op = .binOp op t x y t') (hop : arith op = true) (k : FloatKind) (u v : Nat) (hx : a.eval x = .float k u) (hy : a.eval y = .float k v)
    (h : ∀ r n, num k r = fop k op (num k u) (num k v) → wpList P ops Q rest (a.put o.dst (.float k r)) (w.drewN n)) : wpList P ops Q (o :: rest) a w :=
  wpList_plain hg fun K hK => by
    obtain ⟨r, n, hr, hrun⟩ := run_float_any P w op hop t k u v
    have hq : (eqGuard op t x y (.float k u) (.float k v)).run P w = .ok () w := by
      cases op <;> first | (simp [arith] at hop; done) | simp [eqGuard]
    unfold Oper.wp execOp
    simp only [ho, hx, hy]
    simp only [Sem.run_bind, hq, hrun, Result.andThen]
    exact hK _ _ (h r n hr)
end

section
open Go.RowKit

/-- An array of 64 narrow numbers. -/
def Fld (f : Nat → Nat) : Array Value := ((List.range 64).map fun i => Value.float .f32 (f i)).toArray
theorem Fld_size (f : Nat → Nat) : (Fld f).size = 64 := by simp [Fld]
theorem Fld_at (f : Nat → Nat) (i : Nat) (h : i < 64) : (Fld f)[i]? = some (.float .f32 (f i)) := by
  simp [Fld, h]
/-- The first k are those of f, the others those of g. -/
def mix (f g : Nat → Nat) (k i : Nat) : Nat := if i < k then f i else g i
theorem Fld_congr {f g : Nat → Nat} (h : ∀ i, i < 64 → f i = g i) : Fld f = Fld g := by
  have : (List.range 64).map (fun i => Value.float .f32 (f i)) = (List.range 64).map (fun i => Value.float .f32 (g i)) :=
    List.map_congr_left fun i hi => by rw [h i (by simpa using hi)]
  unfold Fld
  rw [this]
theorem Fld_put (f : Nat → Nat) (k b : Nat) : (Fld f).setIfInBounds k (.float .f32 b) = Fld (fun i => if i = k then b else f i) := by
  apply Array.ext
  · simp [Fld]
  · intro i h1 h2
    rw [Array.getElem_setIfInBounds]
    · simp only [Fld, List.getElem_toArray, List.getElem_map, List.getElem_range]
      by_cases e : k = i
      · subst e; simp
      · rw [if_neg e, if_neg (fun h => e h.symm)]
    · simpa [Fld] using h2
theorem Fld_set (f g : Nat → Nat) (k : Nat) : (Fld (mix f g k)).setIfInBounds k (.float .f32 (f k)) = Fld (mix f g (k + 1)) := by
  rw [Fld_put]
  refine Fld_congr fun i _ => ?_
  simp only [mix]
  by_cases e : i = k
  · subst e; simp
  · have : (i < k + 1) ↔ (i < k) := by omega
    simp [e, this]
theorem Fld_full (f g : Nat → Nat) : Fld (mix f g 64) = Fld f := Fld_congr fun i h => by simp [mix, h]
def zf : Nat → Nat := fun _ => 0

theorem run_store_float (P : Program) (w : World) (a : Addr) (m : Mode) (k : FloatKind) (b : Nat) : (store a (.float k b) m).run P w = stored P w a (.float k b) m := run_store P w a _ m rfl
attribute [local go_sem] run_store_float

theorem below_setCells {B : Nat} {a : World} (b : Nat) (hb : B ≤ b) : ∀ (vs : List Value) (o : Nat) (w : World), Below B a w → Below B a (w.setCells b o vs)
  | [], _, _, h => h
  | v :: r, o, _, h => below_setCells b hb r (o + 1) _ (h.setCell (p := ⟨b, o, none⟩) hb v)

theorem results_cell_mid {P : Program} {fn : Func} {p : Tmp} {ty : TypeId} (h : fn.results = #[.cell p ty]) (tmps : Array Value) (w : World) (b o : Nat) (cs : List Value) (d : TypeDesc)
    (hp : tmps.getD p undef = .pointer (some ⟨b, o, none⟩)) (hc : w.rangeAt b o cs)
    (hu : P.underlying ty = some d) (hd : d.isRow = true) (hi : (P.info? ty).map (·.size) = some cs.length) :
    (results fn tmps).run P w = .ok (.agg cs.toArray) w := by
  have hp' : tmps[p]?.getD undef = .pointer (some ⟨b, o, none⟩) := by simpa using hp
  simp [results, h, hp', asAddr, run_loadVar_mid w b o ty cs d hc hu hd hi]

theorem Fld_length (f : Nat → Nat) : (Fld f).toList.length = 64 := by simp [Fld]
theorem Fld_one (f : Nat → Nat) : (Fld f).all (·.oneCell') = true := by
  refine all_oneCell_toArray fun v hv => ?_
  simp only [List.mem_map] at hv
  obtain ⟨i, _, rfl⟩ := hv
  rfl
theorem rangeAt_row {w : World} {b : Nat} {C : Array Value} {t : TypeId} {fr : Nat × Nat} (hb : w.heap[b]? = some (.cells C t fr)) : w.rangeAt b 0 C.toList := fun j v hv => by
  rw [Nat.zero_add, cell_of_row w b j C t fr hb]
  simpa using hv
theorem there_row {w : World} {b n : Nat} {C : Array Value} {t : TypeId} (hb : w.heap[b]? = some (.cells C t)) (hn : C.size = n) : w.there b 0 n := fun j hj => by
  rw [Nat.zero_add, cell_of_row w b j C t _ hb, frozen_of_row w b j C t hb]
  simp [hn, hj]

end

section
open Go.RowKit

section
variable {P : Program} {ops : Array Oper} {Q : Exit → Act → World → Prop} {md : Region.Mode} {S : World → Prop}

/-- What is asked of an operation's run: it yields one of V, and leaves a world of the class. -/
def CalmUpon (P : Program) (S : World → Prop) (V : Value → Prop) : Result Next → Prop
  | .ok (.value u) w' => V u ∧ S w'
  | .ok .skip w' => V undef ∧ S w'
  | .ok (.enter f args) w' => Calls P f args w' (fun e w'' => ∃ v, e = .returned v ∧ V v ∧ S w'')
  | _ => False

/-- In every world of the class the operation yields one of V, and leaves a world of the class. -/
def CalmAt (P : Program) (ops : Array Oper) (S : World → Prop) (o : Oper) (V : Value → Prop) (a : Act) : Prop :=
  (Region.wanted o (yielded ops a.tmps) = true ∧ ∀ w, S w → CalmUpon P S V ((execOp a.eval o).run P w)) ∨ (Region.wanted o (yielded ops a.tmps) = false ∧ V undef)

theorem CalmAt.of_same {o : Oper} {V : Value → Prop} {a a' : Act} (hy : CalmAt P ops S o V a) (he : execOp a'.eval o = execOp a.eval o)
    (hw : Region.wanted o (yielded ops a'.tmps) = Region.wanted o (yielded ops a.tmps)) : CalmAt P ops S o V a' := by
  unfold CalmAt at *
  rw [he, hw]
  exact hy

theorem CalmAt.wpOp {i : Nat} {o : Oper} {V : Value → Prop} {a : Act} (hi : ops[i]? = some o) (hy : CalmAt P ops S o V a) {K : Act → World → Prop} {w : World} (hS : S w)
    (h : ∀ v w', V v → S w' → K (a.put o.dst v) w') : wpOp P ops Q i K a w := by
  unfold Go.wpOp
  simp only [hi]
  rcases hy with ⟨hw, hv⟩ | ⟨hw, hv⟩
  · simp only [hw, if_true]
    have h1 := hv w hS
    refine .inl ?_
    unfold Oper.wp
    generalize (execOp a.eval o).run P w = r at h1
    cases r with
    | ok n w' =>
      cases n <;> simp only [CalmUpon] at h1 <;> simp only [Oper.upon]
      case value u => exact h _ _ h1.1 h1.2
      case skip => exact h _ _ h1.1 h1.2
      case enter f args =>
        refine Calls.mono h1 fun e w'' he => ?_
        obtain ⟨v, rfl, hV, hS'⟩ := he
        exact h _ _ hV hS'
    | halt x w' => simp only [CalmUpon] at h1
  · simp only [hw, Bool.false_eq_true, if_false]
    exact h _ _ hv hS

/-- Whatever order is picked from here on: 'fuel' operations that are not B's come up, each calm. -/
def wpAnyC (P : Program) (md : Region.Mode) (ops : Array Oper) (S : World → Prop) (B : List Nat) (Vs : Nat → Value → Prop) (E : Array Bool → Act → Prop) : Nat → Array Bool → Act → Prop
  | 0, listed, a => (∀ j ∈ Region.ready md ops listed, j ∈ B) ∧ E listed a
  | fuel + 1, listed, a => Region.ready md ops listed ≠ [] ∧ ∀ i ∈ Region.ready md ops listed, i ∉ B ∧ ∀ o, ops[i]? = some o → CalmAt P ops S o (Vs i) a ∧ ∀ v, Vs i v → wpAnyC P md ops S B Vs E fuel (listed.setIfInBounds i true) (a.put o.dst v)

theorem wpAny_of_calm {B : List Nat} {Vs : Nat → Value → Prop} {E : Array Bool → Act → Prop} {n : Nat} (hE : ∀ listed a w, S w → E listed a → wpAny P md ops Q n listed a w) : ∀ (fuel : Nat) (listed : Array Bool) (a : Act) (w : World), S w →
    wpAnyC P md ops S B Vs E fuel listed a → wpAny P md ops Q (n + fuel) listed a w
  | 0, listed, a, w, hS, h => hE _ _ _ hS h.2
  | fuel + 1, listed, a, w, hS, h => ⟨fun h0 => absurd h0 h.1, fun i hi => by
      obtain ⟨_, o, ho, _⟩ := mem_ready.1 hi
      obtain ⟨h1, h2⟩ := (h.2 i hi).2 o ho
      exact h1.wpOp ho hS fun v w' hV hS' => wpAny_of_calm hE fuel _ _ _ hS' (h2 v hV)⟩

/-- What has been listed waits for nothing that has not. -/
def Closed (md : Region.Mode) (ops : Array Oper) (listed : Array Bool) : Prop := ∀ j o, ops[j]? = some o → listed.getD j false = true → ∀ e ∈ o.after, Region.binds md e = true → listed.getD e.on false = true
theorem closed_none (md : Region.Mode) (ops : Array Oper) (n : Nat) : Closed md ops (Array.replicate n false) := fun j o _ h => by
  rcases Nat.lt_or_ge j n with h' | h'
  · simp [h'] at h
  · simp [h'] at h
theorem getD_set_true {l : Array Bool} {i j : Nat} (h : l.getD j false = true) : (l.setIfInBounds i true).getD j false = true := by
  rcases Nat.lt_or_ge j l.size with h' | h'
  · simp only [Array.getD_eq_getD_getElem?, Array.getElem?_setIfInBounds] at h ⊢
    by_cases e : i = j
    · subst e; simp [h']
    · simpa [e] using h
  · simp [Array.getElem?_eq_none h'] at h
theorem closed_next {md : Region.Mode} {ops : Array Oper} {listed : Array Bool} {i : Nat} (h : Closed md ops listed) (hr : i ∈ Region.ready md ops listed) : Closed md ops (listed.setIfInBounds i true) := fun j o ho hj e he hb => by
  obtain ⟨_, o', ho', hall⟩ := mem_ready.1 hr
  by_cases e1 : j = i
  · subst e1
    obtain rfl := Option.some.inj (ho'.symm.trans ho)
    exact getD_set_true (hall e he hb)
  · refine getD_set_true (h j o ho ?_ e he hb)
    simp only [Array.getD_eq_getD_getElem?, Array.getElem?_setIfInBounds] at hj ⊢
    have : ¬ i = j := fun h => e1 h.symm
    simpa [this] using hj
/-- All for which a marked one waits, over chains of edges, are marked. -/
def markDown (md : Region.Mode) (ops : Array Oper) : Nat → Array Bool → Array Bool
  | 0, m => m
  | j + 1, m => markDown md ops j (if m.getD j false = true then (match ops[j]? with
    | some o => o.after.toList.foldl (fun m e => if Region.binds md e = true then m.setIfInBounds e.on true else m) m
    | none => m) else m)
theorem mark_fold {md : Region.Mode} {Good : Nat → Prop} : ∀ (l : List Edge) (m : Array Bool), (∀ e ∈ l, Region.binds md e = true → Good e.on) → (∀ i, m.getD i false = true → Good i) →
    ∀ i, (l.foldl (fun m e => if Region.binds md e = true then m.setIfInBounds e.on true else m) m).getD i false = true → Good i
  | [], m, _, h => h
  | e :: r, m, he, h => by
    intro i0
    rw [List.foldl_cons]
    by_cases hb : Region.binds md e = true
    · rw [if_pos hb]
      refine mark_fold r _ (fun e' h' => he e' (by simp [h'])) (fun i hi => ?_) i0
      by_cases e1 : e.on = i
      · rw [← e1]; exact he e (by simp) hb
      · refine h i ?_
        simp only [Array.getD_eq_getD_getElem?, Array.getElem?_setIfInBounds] at hi ⊢
        simpa [e1] using hi
    · rw [if_neg hb]
      exact mark_fold r _ (fun e' h' => he e' (by simp [h'])) h i0
theorem mark_good {md : Region.Mode} {ops : Array Oper} {Good : Nat → Prop} (hg : ∀ j o, ops[j]? = some o → Good j → ∀ e ∈ o.after, Region.binds md e = true → Good e.on) : ∀ (n : Nat) (m : Array Bool), (∀ i, m.getD i false = true → Good i) →
    ∀ i, (markDown md ops n m).getD i false = true → Good i
  | 0, m, h => h
  | j + 1, m, h => by
    refine mark_good hg j _ ?_
    split
    · next hj =>
      cases ho : ops[j]? with
      | none => exact h
      | some o => exact mark_fold _ _ (fun e he hb => hg j o ho (h j hj) e (by simpa using he) hb) h
    · exact h

/-- Those of B wait for all others. -/
def waitsB (md : Region.Mode) (ops : Array Oper) (B : List Nat) : Bool :=
  B.all fun b => match markDown md ops ops.size ((Array.replicate ops.size false).setIfInBounds b true) with
    | m => (List.range ops.size).all fun i => B.contains i || m.getD i false

theorem waitsB_spec {B : List Nat} (h : waitsB md ops B = true) {b i : Nat} (hb : b ∈ B) (hi : i ∉ B) {o : Oper} (ho : ops[i]? = some o) {listed : Array Bool} (hc : Closed md ops listed) (hu : listed.getD i true = false) : b ∉ Region.ready md ops listed := by
  intro hr
  obtain ⟨_, ob, hob, hall⟩ := mem_ready.1 hr
  simp only [waitsB, List.all_eq_true, List.mem_range] at h
  have h1 := h b hb i (Array.getElem?_eq_some_iff.1 ho).1
  simp only [Bool.or_eq_true, List.contains_iff_mem, hi, false_or] at h1
  have h2 := mark_good (md := md) (ops := ops) (Good := fun j => j = b ∨ listed.getD j false = true) (fun j oj hj hg e he hbd => by
    rcases hg with rfl | hg
    · obtain rfl := Option.some.inj (hob.symm.trans hj)
      exact .inr (hall e he hbd)
    · exact .inr (hc j oj hj hg e he hbd)) ops.size _ (fun j hj => by
      by_cases e1 : b = j
      · exact .inl e1.symm
      · simp only [Array.getD_eq_getD_getElem?, Array.getElem?_setIfInBounds] at hj
        rcases Nat.lt_or_ge j ops.size with h' | h'
        · simp [e1, h'] at hj
        · simp [e1, h'] at hj) i h1
  rcases h2 with rfl | h3
  · exact hi hb
  · rcases Nat.lt_or_ge i listed.size with h' | h'
    · simp [h'] at hu h3; rw [hu] at h3; cases h3
    · simp [Array.getElem?_eq_none h'] at h3

theorem wpAnyC_first {B : List Nat} {Vs : Nat → Value → Prop} {E : Array Bool → Act → Prop} {i : Nat} {oi : Oper} (hB : waitsB md ops B = true) (hiB : i ∉ B) (hi : ops[i]? = some oi) (hne : ∃ v, Vs i v) (hsel : ∀ (j : Nat) (o : Oper) cs b, ops[j]? = some o → o.op ≠ .select cs b) :
    ∀ (fuel : Nat) (listed : Array Bool) (a : Act), Closed md ops listed →
      (∀ j oj, ops[j]? = some oj → j ≠ i → listed.getD j true = false → (∀ e ∈ oj.after, Region.binds md e = true → e.on ≠ i) → oi.apart ops oj = true) →
      i ∈ Region.ready md ops listed → CalmAt P ops S oi (Vs i) a →
      (∀ v, Vs i v → wpAnyC P md ops S B Vs E fuel (listed.setIfInBounds i true) (a.put oi.dst v)) → wpAnyC P md ops S B Vs E (fuel + 1) listed a := by
  intro fuel
  induction fuel with
  | zero =>
    intro listed a hcl _ hr hy H
    refine ⟨fun h => (by rw [h] at hr; cases hr), fun j hj => ?_⟩
    by_cases hji : j = i
    · subst hji
      refine ⟨hiB, fun o ho => ?_⟩
      obtain rfl := Option.some.inj (hi.symm.trans ho)
      exact ⟨hy, H⟩
    · obtain ⟨v, hv⟩ := hne
      have h1 := (H v hv).1 j (ready_mono hj hji)
      exact absurd hj (waitsB_spec hB h1 hiB hi hcl (mem_ready.1 hr).1)
  | succ fuel ih =>
    intro listed a hcl hfree hr hy H
    refine ⟨fun h => (by rw [h] at hr; cases hr), fun j hj => ?_⟩
    by_cases hji : j = i
    · subst hji
      refine ⟨hiB, fun o ho => ?_⟩
      obtain rfl := Option.some.inj (hi.symm.trans ho)
      exact ⟨hy, H⟩
    · obtain ⟨v0, hv0⟩ := hne
      have hjr := ready_mono hj hji
      obtain ⟨hjB, _⟩ := (H v0 hv0).2 j hjr
      refine ⟨hjB, fun oj hoj => ?_⟩
      obtain ⟨hjun, oj', hoj', hall⟩ := mem_ready.1 hj
      obtain rfl := Option.some.inj (hoj'.symm.trans hoj)
      have hnot : ∀ e ∈ oj'.after, Region.binds md e = true → e.on ≠ i := fun e he hb heq => by
        have h1 := hall e he hb
        have h0 := (mem_ready.1 hr).1
        rw [heq] at h1
        rcases Nat.lt_or_ge i listed.size with h' | h'
        · simp [h'] at h0 h1; rw [h0] at h1; cases h1
        · simp [Array.getElem?_eq_none h'] at h1
      have hap := hfree j oj' hoj hji hjun hnot
      obtain ⟨p1, p2, p3⟩ := Oper.apart_spec hap
      have hsi : ∀ cs b, oi.op ≠ .select cs b := fun cs b => hsel i oi cs b hi
      have hsj : ∀ cs b, oj'.op ≠ .select cs b := fun cs b => hsel j oj' cs b hoj
      have hyj : ∀ v, Vs i v → CalmAt P ops S oj' (Vs j) a := fun v hv =>
        (((H v hv).2 j hjr).2 oj' hoj).1.of_same (execOp_put oj' hsj a oi.dst v p1).symm (wanted_put oj' a oi.dst v p1).symm
      refine ⟨hyj v0 hv0, fun u hu => ?_⟩
      have hfree' : ∀ k ok, ops[k]? = some ok → k ≠ i → (listed.setIfInBounds j true).getD k true = false →
          (∀ e ∈ ok.after, Region.binds md e = true → e.on ≠ i) → oi.apart ops ok = true := fun k ok hk hki hun hno => by
        refine hfree k ok hk hki ?_ hno
        by_cases hjk : j = k
        · subst hjk; exact hjun
        · rw [getD_set_ne true hjk] at hun; exact hun
      refine ih (listed.setIfInBounds j true) (a.put oj'.dst u) (closed_next hcl hj) hfree' (ready_mono hr (Ne.symm hji)) (hy.of_same (execOp_put oi hsi a oj'.dst u p3) (wanted_put oi a oj'.dst u p3)) fun v hv => ?_
      have h4 := (((H v hv).2 j hjr).2 oj' hoj).2 u hu
      rw [Array.setIfInBounds_comm _ _ hji, ← Act.put_comm a v u p2]
      exact h4

/-- The order fits the edges; behind it those of B alone may come up. -/
def calmB (md : Region.Mode) (ops : Array Oper) (B : List Nat) : List Nat → Array Bool → Bool
  | [], listed => (Region.ready md ops listed).all fun j => B.contains j
  | i :: r, listed => (Region.ready md ops listed).contains i && !B.contains i && Region.free md ops listed i && calmB md ops B r (listed.setIfInBounds i true)

/-- Those that have come up behind the order. -/
def listedBy : List Nat → Array Bool → Array Bool
  | [], l => l
  | i :: r, l => listedBy r (l.setIfInBounds i true)

/-- What the order owes. -/
def wpCalm (P : Program) (ops : Array Oper) (S : World → Prop) (E : Act → Prop) : List (Nat × (Value → Prop)) → Act → Prop
  | [], a => E a
  | (i, V) :: r, a => ∃ o, ops[i]? = some o ∧ (∃ v, V v) ∧ CalmAt P ops S o V a ∧ ∀ v, V v → wpCalm P ops S E r (a.put o.dst v)

/-- The same, shut. -/
structure CalmOk (P : Program) (ops : Array Oper) (S : World → Prop) (E : Act → Prop) (l : List (Nat × (Value → Prop))) (a : Act) : Prop where
  out : wpCalm P ops S E l a

/-- The set of a number's values. -/
def Vof (l : List (Nat × (Value → Prop))) (i : Nat) : Value → Prop := match l.find? (fun p => p.1 == i) with
  | some p => p.2
  | none => fun _ => False

theorem wpCalm_any {B : List Nat} {Vs : Nat → Value → Prop} {E : Act → Prop} (hB : waitsB md ops B = true) (hs : Region.noSelect ops = true) (L : Array Bool) : ∀ (l : List (Nat × (Value → Prop))) (listed : Array Bool) (a : Act),
    Closed md ops listed → (∀ p ∈ l, Vs p.1 = p.2) → listedBy (l.map (·.1)) listed = L → calmB md ops B (l.map (·.1)) listed = true → wpCalm P ops S E l a → wpAnyC P md ops S B Vs (fun li a => li = L ∧ E a) l.length listed a
  | [], listed, a, _, _, hL, hb, h => ⟨fun j hj => by simpa using (List.all_eq_true.1 hb) j hj, hL, h⟩
  | (i, V) :: r, listed, a, hcl, hV, hL, hb, h => by
    obtain ⟨o, ho, hne, hc, hn⟩ := h
    simp only [List.map_cons, calmB, Bool.and_eq_true, Bool.not_eq_true'] at hb
    obtain ⟨⟨⟨h1, h2⟩, h3⟩, h4⟩ := hb
    have hVi : Vs i = V := hV (i, V) (by simp)
    refine wpAnyC_first hB (by simpa using h2) ho (by rw [hVi]; exact hne) (Region.noSelect_spec hs) r.length listed a hcl (Region.free_spec ho h3) (by simpa using h1) (by rw [hVi]; exact hc) fun v hv => ?_
    rw [hVi] at hv
    exact wpCalm_any hB hs L r _ _ (closed_next hcl (by simpa using h1)) (fun p hp => hV p (by simp [hp])) (by simpa [listedBy] using hL) h4 (hn v hv)

def distinct : List Nat → Bool
  | [] => true
  | i :: r => !r.contains i && distinct r
theorem Vof_spec : ∀ (l : List (Nat × (Value → Prop))), distinct (l.map (·.1)) = true → ∀ p ∈ l, Vof l p.1 = p.2
  | [], _, p, hp => by cases hp
  | q :: r, hd, p, hp => by
    simp only [List.map_cons, distinct, Bool.and_eq_true, Bool.not_eq_true', List.contains_eq_mem, List.mem_map, decide_eq_false_iff_not] at hd
    unfold Vof
    rw [List.find?_cons]
    by_cases e : q.1 = p.1
    · rcases List.mem_cons.1 hp with rfl | hp
      · simp
      · exact absurd ⟨p, hp, e.symm⟩ hd.1
    · have h1 : (q.1 == p.1) = false := by simpa using e
      rw [h1]
      rcases List.mem_cons.1 hp with rfl | hp
      · exact absurd rfl e
      · exact Vof_spec r hd.2 p hp

/-- A region is left at its end alone. -/
def Clean (Q : Exit → Act → World → Prop) : Exit → Act → World → Prop
  | .normal, a, w => Q .normal a w
  | _, _, _ => False
theorem Clean.normal {a : Act} {w : World} (h : Q .normal a w) : Clean Q .normal a w := h
theorem Clean.imp : ∀ (e : Exit) (a : Act) (w : World), Clean Q e a w → Q e a w := fun e a w h => by
  cases e <;> first | exact h | exact (h : False).elim

/-- First the calm ones, 'idx' their numbers, then a plan for those of B. -/
theorem calm_any {a : Act} {w : World} (idx : List Nat) (B : List Nat) (plan : Pl) (S : World → Prop) (l : List (Nat × (Value → Prop))) (hs : Region.noSelect ops = true)
    (hw : waitsB .any ops B = true) (hc : calmB .any ops B idx (Array.replicate ops.size false) = true) (hd : distinct idx = true) (hb : planB .any ops plan (listedBy idx (Array.replicate ops.size false)) = true) (hz : decide (idx.length + plan.len = ops.size) = true)
    (hl : l.map (·.1) = idx) (hS : S w) (h : CalmOk P ops S (fun a => ∀ w', S w' → PlanOk P ops (Clean Q) (fun _ => True) plan a w') l a) : wpAny P .any ops (Clean Q) ops.size (Array.replicate ops.size false) a w := by
  subst hl
  have hz' := of_decide_eq_true hz
  simp only [List.length_map] at hz'
  have := wpAny_of_calm (P := P) (md := .any) (ops := ops) (S := S) (Q := Clean Q) (n := plan.len) (B := B) (Vs := Vof l) (E := fun li a => li = listedBy (l.map (·.1)) (Array.replicate ops.size false) ∧ ∀ w', S w' → PlanOk P ops (Clean Q) (fun _ => True) plan a w')
    (fun li a w' hS' ⟨e, hE⟩ => by subst e; exact wpAny_of_held _ _ _ _ (wpPlan_any hs (fun _ _ _ _ _ h => h) plan _ _ _ _ hb (Nat.le_refl _) trivial (hE w' hS').out))
    l.length (Array.replicate ops.size false) a w hS (wpCalm_any hw hs _ l _ _ (closed_none _ _ _) (Vof_spec l hd) rfl hc h.out)
  rw [show plan.len + l.length = ops.size by omega] at this
  exact this

/-- THE BEGINNING. -/
theorem wp_region_calm {ops' : Array Oper} {id : Nat} {a : Act} {w : World} (idx : List Nat) (B : List Nat) (plan : Pl) (S : World → Prop) (l : List (Nat × (Value → Prop))) (hn : ops = ops') (hm : P.follows .mixedOrders = true) (hs : Region.noSelect ops' = true)
    (hw : waitsB .any ops' B = true) (hc : calmB .any ops' B idx (Array.replicate ops'.size false) = true) (hd : distinct idx = true) (hb : planB .any ops' plan (listedBy idx (Array.replicate ops'.size false)) = true) (hz : decide (idx.length + plan.len = ops'.size) = true)
    (hl : l.map (·.1) = idx) (hS : S w.drew) (h : CalmOk P ops' S (fun a => ∀ w', S w' → PlanOk P ops' (Clean Q) (fun _ => True) plan a w') l a) : (Code.region id ops true).wp P Q a w := by
  subst hn
  exact Code.wp_mono Clean.imp (wp_region_any hm (calm_any idx B plan S l hs hw hc hd hb hz hl hS h))

/-- No operation of a region defers. -/
def noDeferB (ops : Array Oper) : Bool := ops.all fun o => match o.op with
  | .defer _ => false
  | _ => true
theorem noDefer_spec (h : noDeferB ops = true) {i : Nat} {o : Oper} (ho : ops[i]? = some o) : ∀ c, o.op ≠ .defer c := fun c e => by
  have := Array.all_eq_true_iff_forall_mem.1 h o (Array.mem_of_getElem? ho)
  simp [e] at this

theorem op_in {o : Oper} {a : Act} {w : World} {K : Act → World → Prop} {n l : Nat} (hd : ∀ c, o.op ≠ .defer c) (h : o.wp P a w K (Clean Q)) : o.wpIn (Fence.wide.inRound l) n P a w K Q := by
  refine ⟨fun _ _ => trivial, ?_⟩
  rw [show (Fence.wide.inRound l).round = some l from rfl, Oper.semAt_some l _ _ hd]
  unfold Oper.wp at h
  generalize (execOp a.eval o).run P w = r at h
  cases r with
  | ok x w' =>
    cases x <;> simp only [Oper.upon] at h <;> simp only [Oper.uponIn] <;>
      first
        | exact h
        | exact ⟨fun hh => (by cases hh), CallsIn.inRound l (callsIn_wide.2 (Calls.mono h (fun e w'' he => by cases e <;> first | exact he | exact (he : False).elim | (obtain ⟨_, _, hh⟩ := he; exact (hh : False).elim))))⟩
        | exact h.elim
        | exact ⟨fun hh => (by cases hh), fun c cs _ => (let ⟨v, w2, h1, h2⟩ := h c cs; ⟨v, w2, h1, stepsIn_wide.2 h2⟩)⟩
  | halt x w' => cases x <;> simp only [Oper.upon] at h <;> simp only [Oper.uponIn] <;> first | exact h.elim | exact Clean.imp _ _ _ h

theorem wpOp_in {i : Nat} {a : Act} {w : World} {K : Act → World → Prop} {n l : Nat} (hd : noDeferB ops = true) (h : wpOp P ops (Clean Q) i K a w) : wpOpIn (Fence.wide.inRound l) n P ops Q i K a w := by
  unfold wpOp at h
  unfold wpOpIn
  split
  · rename_i ho
    simpa [ho] using h
  · rename_i o ho
    simp only [ho] at h
    split
    · rename_i hw
      simp only [hw, if_true] at h
      rcases h with h | ⟨_, _, _, h⟩
      · exact op_in (noDefer_spec hd ho) h
      · exact (h : False).elim
    · rename_i hw
      simp only [hw] at h
      exact ⟨fun _ _ => trivial, h⟩

theorem wpAny_in {n l : Nat} (hd : noDeferB ops = true) : ∀ (fuel : Nat) (listed : Array Bool) (a : Act) (w : World), wpAny P md ops (Clean Q) fuel listed a w → wpAnyIn (Fence.wide.inRound l) n P md ops Q fuel listed a w
  | 0, _, _, _, h => h
  | fuel + 1, _, _, _, h => ⟨h.1, fun i hi => wpOp_in hd (wpOp_mono (fun a w h => wpAny_in hd fuel _ a w h) (h.2 i hi))⟩

/-- THE BEGINNING, IN A ROUND of a range over a function. -/
theorem wpIn_region_calm {ops' : Array Oper} {id n l : Nat} {a : Act} {w : World} (idx : List Nat) (B : List Nat) (plan : Pl) (S : World → Prop) (L : List (Nat × (Value → Prop))) (hn : ops = ops') (hm : P.follows .mixedOrders = true) (hs : Region.noSelect ops' = true)
    (hw : waitsB .any ops' B = true) (hc : calmB .any ops' B idx (Array.replicate ops'.size false) = true) (hd : distinct idx = true) (hb : planB .any ops' plan (listedBy idx (Array.replicate ops'.size false)) = true) (hz : decide (idx.length + plan.len = ops'.size) = true) (hf : noDeferB ops' = true)
    (hl : L.map (·.1) = idx) (hS : S w.drew) (h : CalmOk P ops' S (fun a => ∀ w', S w' → PlanOk P ops' (Clean Q) (fun _ => True) plan a w') L a) : (Code.region id ops true).wpIn (Fence.wide.inRound l) n P Q a w := by
  subst hn
  exact wpIn_region_any hm (wpAny_in hf _ _ _ _ (calm_any idx B plan S L hs hw hc hd hb hz hl hS h))

/-- The one value. -/
def One (v : Value) : Value → Prop := fun u => u = v

variable {E : Act → Prop}
theorem calm_end {a : Act} (h : E a) : CalmOk P ops S E [] a := ⟨h⟩
theorem calm_step {i : Nat} {V : Value → Prop} {r : List (Nat × (Value → Prop))} {a : Act} (d : Option Tmp) (hi : decide (i < ops.size) = true) (hd : (opOf ops i).dst = d) (hne : ∃ v, V v) (hc : CalmAt P ops S (opOf ops i) V a)
    (h : ∀ v, V v → CalmOk P ops S E r (a.put d v)) : CalmOk P ops S E ((i, V) :: r) a := by
  subst hd
  exact ⟨⟨_, opOf_some hi, hne, hc, fun v hv => (h v hv).out⟩⟩
/-- A pure one. -/
theorem calm_pure {i : Nat} {v : Value} {r : List (Nat × (Value → Prop))} {a : Act} (d : Option Tmp) (hi : decide (i < ops.size) = true) (hd : (opOf ops i).dst = d) (hw : Region.wanted (opOf ops i) (yielded ops a.tmps) = true) (hv : ∀ w, (execOp a.eval (opOf ops i)).run P w = .ok (.value v) w)
    (h : CalmOk P ops S E r (a.put d v)) : CalmOk P ops S E ((i, One v) :: r) a :=
  calm_step d hi hd ⟨v, rfl⟩ (.inl ⟨hw, fun w hS => by rw [hv w]; exact ⟨rfl, hS⟩⟩) (fun u hu => by cases hu; exact h)
/-- One whose guard says no. -/
theorem calm_skip {i : Nat} {r : List (Nat × (Value → Prop))} {a : Act} (d : Option Tmp) (hi : decide (i < ops.size) = true) (hd : (opOf ops i).dst = d) (hw : Region.wanted (opOf ops i) (yielded ops a.tmps) = false)
    (h : CalmOk P ops S E r (a.put d undef)) : CalmOk P ops S E ((i, One undef) :: r) a :=
  calm_step d hi hd ⟨undef, rfl⟩ (.inr ⟨hw, rfl⟩) (fun u hu => by cases hu; exact h)
/-- One whose value is read in every world of the class. -/
theorem calm_read {i : Nat} {v : Value} {r : List (Nat × (Value → Prop))} {a : Act} (d : Option Tmp) (hi : decide (i < ops.size) = true) (hd : (opOf ops i).dst = d) (hw : Region.wanted (opOf ops i) (yielded ops a.tmps) = true) (hv : ∀ w, S w → (execOp a.eval (opOf ops i)).run P w = .ok (.value v) w)
    (h : CalmOk P ops S E r (a.put d v)) : CalmOk P ops S E ((i, One v) :: r) a :=
  calm_step d hi hd ⟨v, rfl⟩ (.inl ⟨hw, fun w hS => by rw [hv w hS]; exact ⟨rfl, hS⟩⟩) (fun u hu => by cases hu; exact h)
/-- A load of many cells. -/
theorem calm_load {i : Nat} {cs : Array Value} {r : List (Nat × (Value → Prop))} {a : Act} (d : Option Tmp) (ty : TypeId) (x : Operand) (b o : Nat) (D : TypeDesc) (hi : decide (i < ops.size) = true) (hd : (opOf ops i).dst = d) (hw : Region.wanted (opOf ops i) (yielded ops a.tmps) = true)
    (ho : (opOf ops i).op = .load ty x) (hx : a.eval x = .pointer (some ⟨b, o, none⟩)) (hS : ∀ w, S w → w.rangeAt b o cs.toList) (hu : P.underlying ty = some D) (hD : D.isRow = true) (hz : (P.info? ty).map (·.size) = some cs.toList.length)
    (h : CalmOk P ops S E r (a.put d (.agg cs))) : CalmOk P ops S E ((i, One (.agg cs)) :: r) a := by
  refine calm_read d hi hd hw (fun w hS' => ?_) h
  unfold execOp
  simp only [ho, hx, Instr.loadAt, Instr.sureAddr, Sem.run_bind, Sem.run_pure, Result.andThen_ok, run_loadVar_mid w b o ty cs.toList D (hS w hS') hu hD hz, Array.toArray_toList]
/-- A call. -/
theorem calm_call {i : Nat} {V : Value → Prop} {r : List (Nat × (Value → Prop))} {a : Act} (d : Option Tmp) (f : Nat) (args : Array Value) (hne : ∃ v, V v) (hi : decide (i < ops.size) = true) (hd : (opOf ops i).dst = d) (hw : Region.wanted (opOf ops i) (yielded ops a.tmps) = true)
    (ho : ∀ w, (execOp a.eval (opOf ops i)).run P w = .ok (.enter f args) w) (hc : ∀ w, S w → Calls P f args w fun e w' => ∃ v, e = .returned v ∧ V v ∧ S w')
    (h : ∀ v, V v → CalmOk P ops S E r (a.put d v)) : CalmOk P ops S E ((i, V) :: r) a :=
  calm_step d hi hd hne (.inl ⟨hw, fun w hS => by rw [ho w]; exact hc w hS⟩) h
end
end

section
open Go.RowKit Ieee

theorem read_fin (k : FloatKind) (neg : Bool) (rung : Nat) (h : rung < k.format.infRung) : (k.format.read (k.format.word neg rung)).isInfinity = false := by
  have hs := infRung_lt_sign k
  have hm : k.format.word neg rung % k.format.signWeight = rung := by
    unfold Format.word
    cases neg
    · simp [Nat.mod_eq_of_lt (by omega : rung < k.format.signWeight)]
    · simp [Nat.mod_eq_of_lt (by omega : rung < k.format.signWeight)]
  unfold Format.read
  simp only [hm]
  split
  · rfl
  · first | rfl | (rw [if_pos h]; rfl)

theorem single_number {b : Nat} {s : Bool} {m : Nat} {i : Int} (h : single.read b = .number s m i) : m < 16777216 ∧ -149 ≤ i ∧ i ≤ 104 := by
  have e1 : single.signWeight = 2147483648 := by decide +kernel
  have e2 : single.infRung = 2139095040 := by decide +kernel
  have e3 : single.binade = 8388608 := by decide +kernel
  have e4 : single.leastPlace = -149 := by decide +kernel
  unfold Format.read at h
  simp only [e1, e2, e3, e4] at h
  split at h
  · simp only [Datum.number.injEq] at h
    obtain ⟨_, rfl, rfl⟩ := h
    omega
  · split at h
    · simp only [Datum.number.injEq] at h
      obtain ⟨_, rfl, rfl⟩ := h
      omega
    · split at h <;> cases h

theorem cut_none (neg : Bool) (n : Nat) : Toward.even.cut neg n 0 = n := by
  simp [Toward.cut, Nat.mod_one]

theorem double_fin (s : Bool) (m : Nat) (i : Int) (hm : m < 16777216) (h1 : -149 ≤ i) (h2 : i ≤ 104) : (FloatKind.f64.format.read (FloatKind.f64.format.write (.number s m i))).isInfinity = false := by
  show (FloatKind.f64.format.read (FloatKind.f64.format.nearest s m i)).isInfinity = false
  have e4 : FloatKind.f64.format.leastPlace = -1074 := by decide +kernel
  have e5 : FloatKind.f64.format.fractionBits = 52 := rfl
  unfold Format.nearest
  split
  · exact read_fin .f64 s 0 (by decide +kernel)
  · rename_i h0
    have hl : m.log2 < 24 := (Nat.log2_lt h0).2 (by simpa using hm)
    have hlt : m < 2 ^ (m.log2 + 1) := Nat.lt_log2_self
    have hmax : max (i + (m.log2 : Int) - (52 : Int)) (-1074) = i + (m.log2 : Int) - 52 := by omega
    simp only [e4, e5]
    rw [show ((52 : Nat) : Int) = 52 from rfl, hmax]
    have hd : (i + (m.log2 : Int) - 52 - i).toNat = 0 := by omega
    have hu : (i - (i + (m.log2 : Int) - 52)).toNat = 52 - m.log2 := by omega
    rw [hd, hu, cut_none]
    have hk : m <<< (52 - m.log2) < 2 ^ 53 := by
      rw [Nat.shiftLeft_eq]
      calc m * 2 ^ (52 - m.log2) < 2 ^ (m.log2 + 1) * 2 ^ (52 - m.log2) := Nat.mul_lt_mul_of_pos_right hlt (Nat.two_pow_pos _)
        _ = 2 ^ 53 := by rw [← Nat.pow_add]; congr 1; omega
    have hX : (i + (m.log2 : Int) - 52 - -1074).toNat ≤ 1149 := by omega
    have hb : FloatKind.f64.format.binade = 2 ^ 52 := rfl
    have hr : (i + (m.log2 : Int) - 52 - -1074).toNat * FloatKind.f64.format.binade + m <<< (52 - m.log2) < FloatKind.f64.format.infRung := by
      have hi : FloatKind.f64.format.infRung = 2047 * 2 ^ 52 := by decide +kernel
      rw [hi, hb]
      have := Nat.mul_le_mul_right (2 ^ 52) hX
      omega
    rw [Nat.min_eq_left (Nat.le_of_lt hr)]
    exact read_fin .f64 s _ hr

/-- A narrow number made wide. -/
def cv (b : Nat) : Nat := FloatKind.f64.format.write (single.read b)

theorem run_conv (P : Program) (w : World) (src dst : TypeId) (hs : P.underlying src = some (.float .f32)) (hd : P.underlying dst = some (.float .f64)) (b : Nat) :
    ∃ r n, num .f64 r = (num .f32 b).map cv ∧ (convert src dst (.float .f32 b)).run P w = .ok (.float .f64 r) (w.drewN n) := by
  cases hn : nanK .f32 b
  · refine ⟨cv b, 0, ?_, ?_⟩
    · rw [num_some hn]
      have : (single.read b).isNaN = false := by rw [← hn, nanK_read]; rfl
      exact num_some (write_notnan .f64 _ this)
    · refine run_convert_float_float w src dst .f32 .f64 b _ (by simp [hs]) hd ?_
      unfold floatToFloatBits
      rw [nanK_read] at hn
      have hn' : (single.read b).isNaN = false := hn
      show (if FloatKind.f32 = FloatKind.f64 then _ else _) = _
      rw [if_neg (by decide)]
      show (match single.read b with | .nan _ _ => _ | .infinity s => _ | .number s m e => _) = _
      unfold cv
      cases hr : single.read b with
      | number s m i =>
        obtain ⟨h1, h2, h3⟩ := single_number hr
        have := double_fin s m i h1 h2 h3
        simp [FloatKind.encode, FloatKind.decode, this]
      | infinity s => rfl
      | nan s f => rw [hr] at hn'; simp [Datum.isNaN] at hn'
  · have hn' : (single.read b).isNaN = true := by rw [← hn, nanK_read]; rfl
    refine ⟨(Question.nanConv .f64 b).cut (w.tape w.drawn (.nanConv .f64 b)), 1, ?_, ?_⟩
    · rw [num_none hn]
      exact num_none (cut_nan .f64 0 0 (w.tape w.drawn (.nanConv .f64 b)))
    · cases hr : single.read b with
      | number s m i => rw [hr] at hn'; simp [Datum.isNaN] at hn'
      | infinity s => rw [hr] at hn'; simp [Datum.isNaN] at hn'
      | nan s f =>
        have hd' : FloatKind.f32.decode b = .nan s f := hr
        simp [convert, run_underlying hs, run_underlying hd, Conv.floatToFloat, hd', Question.forced, World.drew_is_drewN]

/-- A CONVERSION, IN A WALK. -/
theorem wpList_conv {P : Program} {ops : Array Oper} {rest : List Oper} {o : Oper} {a : Act} {w : World} {Q : Exit → Act → World → Prop} (hg : o.guard = none) (src dst : TypeId) (x : Operand)
    (ho : o.op = .convert src dst x) (hs : P.underlying src = some (.float .f32)) (hd : P.underlying dst = some (.float .f64)) (b : Nat) (hx : a.eval x = .float .f32 b)
    (h : ∀ r n, num .f64 r = (num .f32 b).map cv → wpList P ops Q rest (a.put o.dst (.float .f64 r)) (w.drewN n)) : wpList P ops Q (o :: rest) a w :=
  wpList_plain hg fun K hK => by
    obtain ⟨r, n, hr, hrun⟩ := run_conv P w src dst hs hd b
    unfold Oper.wp execOp
    simp only [ho, hx]
    simp only [Sem.run_bind, hrun, Result.andThen]
    exact hK _ _ (h r n hr)

theorem num_eq_of_same {k : FloatKind} {x y : Nat} (h : num k x = num k y) : (k.format.order x x != some Ordering.eq) = (k.format.order y y != some Ordering.eq) := by
  rw [order_num h h]

theorem ret_bool' {a b : Bool} (h : a = b) : Ending.returned (.bool a) = .returned (.bool b) := by rw [h]

set_option maxRecDepth 100000 in
/-- sameFloat says yes of two numbers that are one up to which NaN they are. -/
theorem sameFloat_yes (x y : Nat) (h : num .f64 x = num .f64 y) (w : World) :
    Calls Tryd.prog 6 #[.float .f64 x, .float .f64 y] w fun e w' => e = .returned (.bool true) ∧ ∃ n, w' = w.drewN n := by
  cases hx : nanK .f64 x
  · have hy : nanK .f64 y = false := by
      cases hy : nanK .f64 y
      · rfl
      · rw [num_some hx, num_none hy] at h; cases h
    have hxy : x = y := by rw [num_some hx, num_some hy] at h; exact Option.some.inj h
    subst hxy
    clear h hy
    unfold nanK at hx
    cases hz : (FloatKind.f64.format.order x 0 == some Ordering.eq)
    · go_enter Tryd.func6, Tryd.ntmps6
      go_wp2
      go_ret
      exact ⟨ret_bool' (by simpa using hx), 0, rfl⟩
    · have tok : True := trivial
      go_enter Tryd.func6, Tryd.ntmps6
      go_wp2_with (first | (have _t := tok; refine wpList_float rfl _ _ _ _ _ rfl rfl .f64 _ _ rfl rfl ?_; intro r1 n1 hr1; have H1 := Lib.hid hr1; clear tok hr1) | (refine wpList_float rfl _ _ _ _ _ rfl rfl .f64 _ _ rfl rfl ?_; intro r2 n2 hr2; have H2 := Lib.hid hr2; clear hr2))
      have e := order_num (H1.out.trans H2.out.symm) (rfl : num .f64 0 = num .f64 0)
      go_ret
      exact ⟨ret_bool' (by rw [e]; simp), _, rfl⟩
  · have hy : nanK .f64 y = true := by rw [num_none hx] at h; exact num_eq_none h.symm
    clear h
    unfold nanK at hx hy
    go_enter Tryd.func6, Tryd.ntmps6
    go_wp2
    go_ret
    exact ⟨rfl, 0, rfl⟩
end

section
open Go.RowKit Go.WideShapes
attribute [local go_sem] run_store_float
set_option linter.unusedSimpArgs false

/-- A ground's numbers. -/
structure Gd where
  wide : Int
  high : Int
  c : Nat → Nat
  g : Nat → Nat
  h : Nat → Nat
  x : Int

def GrdL (G : Gd) : List Value := Value.int .i8 G.wide :: Value.int .i8 G.high :: ((Fld G.c).toList ++ ((Fld G.g).toList ++ ((Fld G.h).toList ++ [Value.int .u64 G.x])))
def Grd (G : Gd) : Array Value := (GrdL G).toArray
theorem GrdL_length (G : Gd) : (GrdL G).length = 195 := by simp [GrdL, Fld_size]
theorem Grd_size (G : Gd) : (Grd G).size = 195 := by simp [Grd, GrdL_length]
theorem Grd_toList (G : Gd) : (Grd G).toList = GrdL G := rfl
theorem GrdL_one (G : Gd) : ∀ v ∈ GrdL G, v.oneCell' = true := by
  intro v hv
  have hF : ∀ f, v ∈ (Fld f).toList → v.oneCell' = true := fun f hm => (Array.all_eq_true_iff_forall_mem.1 (Fld_one f)) v (by simpa using hm)
  simp only [GrdL, List.mem_cons, List.mem_append, List.not_mem_nil, or_false] at hv
  rcases hv with rfl | rfl | hv | hv | hv | rfl
  · rfl
  · rfl
  · exact hF _ hv
  · exact hF _ hv
  · exact hF _ hv
  · rfl
theorem Grd_one (G : Gd) : (Grd G).all (·.oneCell') = true := all_oneCell_toArray (GrdL_one G)

theorem rangeAt_append {w : World} {b o : Nat} {l r : List Value} (h : w.rangeAt b o (l ++ r)) : w.rangeAt b o l ∧ w.rangeAt b (o + l.length) r := by
  refine ⟨fun j v hv => h j v (by rw [List.getElem?_append_left (List.getElem?_eq_some_iff.1 hv).1]; exact hv), fun j v hv => ?_⟩
  have := h (l.length + j) v (by rw [List.getElem?_append_right (by omega)]; simpa using hv)
  rwa [← Nat.add_assoc] at this

/-- What a block holds that holds a ground from o on. -/
structure GrdAt (w : World) (b o : Nat) (G : Gd) : Prop where
  wide : w.cell? ⟨b, o, none⟩ = some (.int .i8 G.wide)
  high : w.cell? ⟨b, o + 1, none⟩ = some (.int .i8 G.high)
  c : w.rangeAt b (o + 2) (Fld G.c).toList
  g : w.rangeAt b (o + 66) (Fld G.g).toList
  h : w.rangeAt b (o + 130) (Fld G.h).toList
  x : w.cell? ⟨b, o + 194, none⟩ = some (.int .u64 G.x)

theorem grdAt {w : World} {b o : Nat} {G : Gd} (hr : w.rangeAt b o (GrdL G)) : GrdAt w b o G := by
  have h0 := hr 0 _ rfl
  have h1 := hr 1 _ rfl
  have hc : w.rangeAt b (o + 2) ((Fld G.c).toList ++ ((Fld G.g).toList ++ ((Fld G.h).toList ++ [Value.int .u64 G.x]))) := fun j v hv => by
    have := hr (j + 2) v (by simpa [GrdL] using hv)
    rwa [show o + (j + 2) = o + 2 + j by omega] at this
  obtain ⟨r1, hc⟩ := rangeAt_append hc
  rw [Fld_length] at hc
  obtain ⟨r2, hc⟩ := rangeAt_append hc
  rw [Fld_length] at hc
  obtain ⟨r3, hc⟩ := rangeAt_append hc
  rw [Fld_length] at hc
  have h4 := hc 0 _ rfl
  exact ⟨h0, h1, r1, r2, r3, h4⟩

theorem GrdAt.below {n : Nat} {w w' : World} {b o : Nat} {G : Gd} (h : GrdAt w b o G) (hb : Below n w w') (hn : b < n) : GrdAt w' b o G :=
  ⟨(hb.cell (p := ⟨b, o, none⟩) hn).trans h.wide, (hb.cell (p := ⟨b, o + 1, none⟩) hn).trans h.high, fun j v hv => (hb.cell (p := ⟨b, o + 2 + j, none⟩) hn).trans (h.c j v hv),
   fun j v hv => (hb.cell (p := ⟨b, o + 66 + j, none⟩) hn).trans (h.g j v hv), fun j v hv => (hb.cell (p := ⟨b, o + 130 + j, none⟩) hn).trans (h.h j v hv), (hb.cell (p := ⟨b, o + 194, none⟩) hn).trans h.x⟩

theorem wp_world {P : Program} {c : Code} {Q : Exit → Act → World → Prop} {a : Act} {w w' : World} (h : w = w') (hw : c.wp P Q a w') : c.wp P Q a w := by rw [h]; exact hw

def zG : Gd := { wide := 0, high := 0, c := zf, g := zf, h := zf, x := 0 }

/-- In the midst of toGround: the first k cells of the copy are there. -/
structure Mid (w : World) (G : Gd) (k : Nat) (W : World) : Prop where
  below : Below w.heap.size w W
  size : w.heap.size + 3 ≤ W.heap.size
  src : GrdAt W w.heap.size 0 G
  res : W.there (w.heap.size + 1) 0 195
  out : W.there (w.heap.size + 1 + 1) 0 195
  done : W.rangeAt (w.heap.size + 1 + 1) 0 ((GrdL G).take k)

theorem there_below {n : Nat} {w w' : World} {b o m : Nat} (h : w.there b o m) (hb : Below n w w') (hn : b < n) : w'.there b o m := fun j hj =>
  ⟨by rw [hb.cell (p := ⟨b, o + j, none⟩) hn]; exact (h j hj).1, by rw [hb.frozen (p := ⟨b, o + j, none⟩) hn]; exact (h j hj).2⟩

theorem Mid.mono {w : World} {G : Gd} {k : Nat} {W W' : World} (h : Mid w G k W) (hb : Below W.heap.size W W') : Mid w G k W' :=
  have h1 := h.size
  ⟨h.below.trans (hb.mono (by omega)), Nat.le_trans h.size hb.size, h.src.below hb (by omega), there_below h.res hb (by omega), there_below h.out hb (by omega),
   fun j v hv => (hb.cell (p := ⟨w.heap.size + 1 + 1, 0 + j, none⟩) (by show w.heap.size + 1 + 1 < _; omega)).trans (h.done j v hv)⟩

theorem Mid.put {w : World} {G : Gd} {k : Nat} {W : World} (h : Mid w G k W) (vs : List Value) (hvs : vs = ((GrdL G).drop k).take vs.length) (hk : k + vs.length ≤ 195) :
    Mid w G (k + vs.length) (W.setCells (w.heap.size + 1 + 1) k vs) := by
  have hl := GrdL_length G
  have hsz : (W.setCells (w.heap.size + 1 + 1) k vs).heap.size = W.heap.size := by
    have : ∀ (vs : List Value) (o : Nat) (W : World), (W.setCells (w.heap.size + 1 + 1) o vs).heap.size = W.heap.size := by
      intro vs
      induction vs with
      | nil => intro o W; rfl
      | cons v r ih => intro o W; rw [World.setCells, ih]; simp [World.setCell]
    exact this vs k W
  have hw : W.there (w.heap.size + 1 + 1) k vs.length := fun j hj => by
    have := h.out (k + j) (by omega)
    rwa [Nat.zero_add] at this
  have hap : ∀ {b o : Nat} {cs : List Value}, b ≠ w.heap.size + 1 + 1 → W.rangeAt b o cs → (W.setCells (w.heap.size + 1 + 1) k vs).rangeAt b o cs := fun hne hr => World.rangeAt_setCells_apart hr _ _ _ (.inl hne)
  have hone : ∀ {b o : Nat} {v : Value}, b ≠ w.heap.size + 1 + 1 → W.cell? ⟨b, o, none⟩ = some v → (W.setCells (w.heap.size + 1 + 1) k vs).cell? ⟨b, o, none⟩ = some v := fun hne hr => by
    have := hap (cs := [_]) hne (fun j v hv => by
      have hj : j = 0 := by have := (List.getElem?_eq_some_iff.1 hv).1; simpa using this
      subst hj; simp at hv; subst hv; exact hr)
    exact this 0 _ rfl
  refine ⟨below_setCells _ (by omega) _ _ _ h.below, by rw [hsz]; exact h.size, ?_, World.there_setCells h.res _ _ _, World.there_setCells h.out _ _ _, ?_⟩
  · exact ⟨hone (by omega) h.src.wide, hone (by omega) h.src.high, hap (by omega) h.src.c, hap (by omega) h.src.g, hap (by omega) h.src.h, hone (by omega) h.src.x⟩
  · intro j v hv
    have hj : j < k + vs.length := by
      have := (List.getElem?_eq_some_iff.1 hv).1
      simp at this; omega
    rw [List.getElem?_take_of_lt hj] at hv
    by_cases hjk : j < k
    · have h1 := h.done j v (by rw [List.getElem?_take_of_lt hjk]; exact hv)
      have := World.rangeAt_setCells_apart (b' := w.heap.size + 1 + 1) (o' := 0 + j) (cs := [v]) (fun i u hu => by
        have hi : i = 0 := by have := (List.getElem?_eq_some_iff.1 hu).1; simpa using this
        subst hi; simp at hu; subst hu; exact h1) (w.heap.size + 1 + 1) k vs (by right; left; simp; omega)
      exact this 0 v rfl
    · have h1 := World.rangeAt_setCells_same W (w.heap.size + 1 + 1) k vs hw (j - k) v (by
        rw [hvs, List.getElem?_take_of_lt (by omega), List.getElem?_drop]
        rw [show k + (j - k) = j by omega]; exact hv)
      rwa [show k + (j - k) = 0 + j by omega] at h1

theorem drop_take_fld (l : List Value) (f : Nat → Nat) (r : List Value) : (Fld f).toList = (((l ++ ((Fld f).toList ++ r)).drop l.length).take (Fld f).toList.length) := by
  rw [List.drop_left, List.take_left]

end

section
open Go.RowKit
set_option linter.unusedSimpArgs false

theorem ret_bool {a b : Bool} (h : a = b) : Ending.returned (.bool a) = .returned (.bool b) := by rw [h]

/-- A world from which only answers have been drawn. -/
def Quiet (w w' : World) : Prop := ∃ n, w' = w.drewN n
theorem Quiet.refl (w : World) : Quiet w w := ⟨0, rfl⟩
theorem Quiet.drewN {w w1 : World} (h : Quiet w w1) (n : Nat) : Quiet w (w1.drewN n) := by
  obtain ⟨m, rfl⟩ := h
  exact ⟨m + n, World.drewN_drewN _ _ _⟩
theorem Quiet.trans {a b c : World} (h : Quiet a b) (k : Quiet b c) : Quiet a c := by
  obtain ⟨m, rfl⟩ := k
  exact h.drewN m
theorem Quiet.cell {w w1 : World} (h : Quiet w w1) (x : Addr) : w1.cell? x = w.cell? x := by
  obtain ⟨m, rfl⟩ := h
  rfl
theorem Quiet.size {w w1 : World} (h : Quiet w w1) : w1.heap.size = w.heap.size := by
  obtain ⟨m, rfl⟩ := h
  rfl
theorem Quiet.below {w w1 : World} (h : Quiet w w1) (n : Nat) : Below n w w1 := by
  obtain ⟨m, rfl⟩ := h
  exact ⟨rfl, rfl, rfl, Nat.le_refl _, fun _ _ => rfl⟩
theorem Quiet.grd {w w1 : World} (h : Quiet w w1) {b o : Nat} {G : Gd} (g : GrdAt w b o G) : GrdAt w1 b o G := g.below (h.below (b + 1)) (by omega)
theorem Quiet.range {w w1 : World} (h : Quiet w w1) {b o : Nat} {cs : List Value} (g : w.rangeAt b o cs) : w1.rangeAt b o cs := fun j v hv => (h.cell _).trans (g j v hv)

/-- A value, boxed. -/
theorem one_box (A : Array Value) (t : TypeId) (w : World) : ∃ W, w.alloc (.cells A t) = W ∧ W.heap.size = w.heap.size + 1 ∧ W.rangeAt w.heap.size 0 A.toList ∧ Below w.heap.size w W :=
  ⟨_, rfl, by simp, rangeAt_row (heap_alloc_last w (.cells A t)), (Below.refl _ _).alloc (Nat.le_refl _) _⟩
/-- Two values, boxed one behind the other. -/
theorem two_boxes (A B : Array Value) (t u : TypeId) (w : World) : ∃ W, (w.alloc (.cells A t)).alloc (.cells B u) = W ∧ W.heap.size = w.heap.size + 1 + 1 ∧ W.rangeAt w.heap.size 0 A.toList ∧ W.rangeAt (w.heap.size + 1) 0 B.toList ∧ Below w.heap.size w W := by
  have hz : (w.alloc (.cells A t)).heap.size = w.heap.size + 1 := by simp
  refine ⟨_, rfl, by simp, ?_, ?_, ((Below.refl _ _).alloc (Nat.le_refl _) _).alloc (by omega) _⟩
  · exact World.rangeAt_alloc (rangeAt_row (heap_alloc_last w (.cells A t))) _
  · have := rangeAt_row (heap_alloc_last (w.alloc (.cells A t)) (.cells B u))
    rwa [hz] at this

theorem below_step {n : Nat} {w W V : World} (h : Below n w W) (hb : Below W.heap.size W V) (hn : n ≤ W.heap.size) : Below n w V := h.trans (hb.mono hn)
theorem keepB {n : Nat} {W w1 w2 : World} (hb : Below w1.heap.size w1 w2) (h : Below n W w1) (hn : n ≤ W.heap.size) : Below n W w2 :=
  h.trans (hb.mono (Nat.le_trans hn h.size))
/-- What lies in a block that has not turned lies there. -/
theorem range_kept {n b o : Nat} {W : World} {cs : List Value} (hc : W.rangeAt b o cs) (hb : b < n) : ∀ w', Below n W w' → w'.rangeAt b o cs :=
  fun _ h j v hv => (h.cell (p := ⟨b, o + j, none⟩) hb).trans (hc j v hv)

/-- A LOAD OF MANY CELLS THAT IS WANTED, IN A WALK (guarded or not). -/
theorem wpList_load_g {P : Program} {ops : Array Oper} {rest : List Oper} {op : Oper} {a : Act} {w : World} {Q : Exit → Act → World → Prop} (hw : Region.wanted op (yielded ops a.tmps) = true) (ty : TypeId) (x : Operand) (ho : op.op = .load ty x)
    (b o : Nat) (hx : a.eval x = .pointer (some ⟨b, o, none⟩)) (cs : List Value) (d : TypeDesc) (hc : w.rangeAt b o cs)
    (hu : P.underlying ty = some d) (hd : d.isRow = true) (hi : (P.info? ty).map (·.size) = some cs.length)
    (h : wpList P ops Q rest (a.put op.dst (.agg cs.toArray)) w) : wpList P ops Q (op :: rest) a w :=
  wpList_step fun _ hK => by rw [if_pos hw]; exact wp_load_mid ty x ho b o hx cs d hc hu hd hi (hK _ _ h)

theorem Grd_fld {w : World} {b o : Nat} {f : Nat → Nat} (h : w.rangeAt b o (Fld f).toList) (k : Nat) (hk : k < 64) : w.cell? ⟨b, o + k, none⟩ = some (.float .f32 (f k)) := h k _ (by simpa using Fld_at f k hk)
end

section
open Go.RowKit

/-- A number, up to which NaN it is. -/
def Numv (k : FloatKind) (o : Option Nat) : Value → Prop := fun x => ∃ r, x = .float k r ∧ num k r = o
theorem Numv_num (k : FloatKind) (b : Nat) : Numv k (num k b) (.float k b) := ⟨b, rfl, rfl⟩
theorem Numv_some (k : FloatKind) (b : Nat) : ∃ v, Numv k (num k b) v := ⟨_, Numv_num k b⟩

section
variable {P : Program} {ops : Array Oper} {S : World → Prop} {E : Act → Prop}

theorem calm_float {i : Nat} {o : Option Nat} {r : List (Nat × (Value → Prop))} {a : Act} (d : Option Tmp) (k : FloatKind) (op : BinOp) (t t' : TypeId) (x y : Operand) (u v : Nat) (hi : decide (i < ops.size) = true) (hd : (opOf ops i).dst = d) (hw : Region.wanted (opOf ops i) (yielded ops a.tmps) = true)
    (ho : (opOf ops i).op = .binOp op t x y t') (hop : arith op = true) (hx : a.eval x = .float k u) (hy : a.eval y = .float k v) (hS : ∀ w n, S w → S (World.drewN w n)) (hr : fop k op (num k u) (num k v) = o)
    (h : ∀ b, num k b = o → CalmOk P ops S E r (a.put d (.float k b))) : CalmOk P ops S E ((i, Numv k o) :: r) a := by
  refine calm_step d hi hd ?_ (.inl ⟨hw, fun w hSw => ?_⟩) (fun v hv => ?_)
  · obtain ⟨r, n, h1, _⟩ := run_float_any P default op hop t k u v
    exact ⟨.float k r, r, rfl, h1.trans hr⟩
  · obtain ⟨r, n, h1, h2⟩ := run_float_any P w op hop t k u v
    have hq : (eqGuard op t x y (.float k u) (.float k v)).run P w = .ok () w := by
      cases op <;> first | (simp [arith] at hop; done) | simp [eqGuard]
    unfold execOp
    simp only [ho, hx, hy]
    simp only [Sem.run_bind, hq, h2, Result.andThen]
    exact ⟨⟨r, rfl, h1.trans hr⟩, hS w n hSw⟩
  · obtain ⟨b, rfl, hb⟩ := hv
    exact h b hb

theorem calm_conv {i : Nat} {o : Option Nat} {r : List (Nat × (Value → Prop))} {a : Act} (d : Option Tmp) (src dst : TypeId) (x : Operand) (u : Nat) (hi : decide (i < ops.size) = true) (hd : (opOf ops i).dst = d) (hw : Region.wanted (opOf ops i) (yielded ops a.tmps) = true)
    (ho : (opOf ops i).op = .convert src dst x) (hs : P.underlying src = some (.float .f32)) (hdt : P.underlying dst = some (.float .f64)) (hx : a.eval x = .float .f32 u) (hS : ∀ w n, S w → S (World.drewN w n)) (hr : (num .f32 u).map cv = o)
    (h : ∀ b, num .f64 b = o → CalmOk P ops S E r (a.put d (.float .f64 b))) : CalmOk P ops S E ((i, Numv .f64 o) :: r) a := by
  refine calm_step d hi hd ?_ (.inl ⟨hw, fun w hSw => ?_⟩) (fun v hv => ?_)
  · obtain ⟨r, n, h1, _⟩ := run_conv P default src dst hs hdt u
    exact ⟨.float .f64 r, r, rfl, h1.trans hr⟩
  · obtain ⟨r, n, h1, h2⟩ := run_conv P w src dst hs hdt u
    unfold execOp
    simp only [ho, hx]
    simp only [Sem.run_bind, h2, Result.andThen]
    exact ⟨⟨r, rfl, h1.trans hr⟩, hS w n hSw⟩
  · obtain ⟨b, rfl, hb⟩ := hv
    exact h b hb

/-- A load of one cell. -/
theorem load_cell {op : Oper} {a : Act} {ty : TypeId} {x : Operand} {b o : Nat} {v : Value} {w : World} {D : TypeDesc} (ho : op.op = .load ty x) (hx : a.eval x = .pointer (some ⟨b, o, none⟩)) (hu : P.underlying ty = some D) (hD : D.isRow = false)
    (hc : w.cell? ⟨b, o, none⟩ = some v) : (execOp a.eval op).run P w = .ok (.value v) w := by
  have hagg : (isAgg ty).run P w = .ok false w := by
    unfold isAgg
    rw [Sem.run_bind, run_underlying hu w]
    cases D <;> simp_all
  unfold execOp
  simp only [ho, hx]
  go_simp

/-- A store of many cells. -/
theorem store_op {op : Oper} {a : Act} {ty : TypeId} {x y : Operand} {b o : Nat} {cs : Array Value} {w : World} (ho : op.op = .store ty x y) (hx : a.eval x = .pointer (some ⟨b, o, none⟩)) (hy : a.eval y = .agg cs)
    (ht : w.there b o cs.size) (hi : (P.info? ty).map (·.size) = some cs.size) (h1 : cs.all (·.oneCell') = true) : (execOp a.eval op).run P w = .ok .skip (w.setCells b o cs.toList) := by
  unfold execOp
  simp only [ho, hx, hy, Instr.storeAt, Instr.sureAddr, Sem.run_bind, Sem.run_pure, Result.andThen_ok, run_storeVar_mid w b o ty cs ht hi h1]

end
end

section
open Go.ChangeShapes Go.WideShapes Go.ChangeAt Go.RowKit
set_option maxRecDepth 100000

theorem own : ownKnob Tryd.prog.godebug = none := by kernel_rfl
theorem laidOut : laidOutB Tryd.prog = true := by kernel_rfl

/-- The table of math/bits, where it is laid. -/
def TabAt (w : World) : Prop := ∀ j, j < 64 → w.cell? ⟨6, j, none⟩ = some (.int .u8 (Lib.deBruijn64tab.getD j 0))

def laidL : List (String × DataW Unit) := [("math/bits.deBruijn64tab", Rows.laid_math_bits_deBruijn64tab)]
theorem gTab : Tryd.prog.globalNamed "math/bits.deBruijn64tab" = some 6 := by kernel_rfl
theorem tTab : (Tryd.prog.globals[(6 : Nat)]?).map (·.type) = some 90 := by kernel_rfl
theorem cTab : Tryd.prog.cellsOf 90 = 64 := by kernel_rfl
theorem cU8 : Tryd.prog.cellsOf 5 = 1 := by kernel_rfl

theorem tab_of_laid {W : World} (h : laidMetH Tryd.prog laidL W) : TabAt W := by
  rw [MakeChecks.laidMetH_plain _ _ _ (by kernel_rfl)] at h
  have ht : Lib.TabIs Tryd.prog W "math/bits.deBruijn64tab" .u8 (Lib.deBruijn64tab.map fun n : Nat => (n : Int)) :=
    Lib.tabIs_of_head gTab tTab Tryd.underlying90 Tryd.underlying5 cU8 cTab h
  intro j hj
  have := ht.cell gTab j (by simpa [Lib.deBruijn64tab] using hj)
  rw [this]
  congr 2
  have e : ∀ (l : List Nat) (j : Nat), (l.map fun n : Nat => (n : Int)).getD j 0 = ((l.getD j 0 : Nat) : Int) := by
    intro l
    induction l with
    | nil => intro j; rfl
    | cons a r ih => intro j; cases j with
      | zero => rfl
      | succ j => simpa using ih j
  exact e _ _

theorem trodAll_stays {H : Type} {enc : TypeId × Value → H} {P : Program} (hl : laidOutB P = true) {W W' : World} {sp' : Nat → Bool} (hb : ∀ {p : MemPlace}, p.block < W.heap.size → W.sameAt W' p) :
    ∀ {ts : List TypeId} {vs : List Value} {ds : List (DataW H)} {ps : List MemPlace}, (∀ t ∈ ts, P.readableRec t = true ∧ t < P.types.size) →
      DataW.TrodAll enc P W 0 (fun _ => true) true ts vs ds ps → (∀ p ∈ ps, p.block < W.heap.size) → (∀ p ∈ ps, sp' p.block = true) → DataW.TrodAll enc P W' 0 sp' true ts vs ds ps
  | [], vs, ds, ps, _, h, _, _ => by
    obtain ⟨rfl, rfl, rfl⟩ := trodAll_nil h
    rfl
  | t :: ts, vs, ds, ps, ht, h, hp, hs => by
    obtain ⟨v, vs1, d, ds1, a, b, rfl, rfl, rfl, h1, h2⟩ := trodAll_cons h
    refine ⟨a, b, ?_, ?_, rfl⟩
    · exact WideElems.Trod_stays hl (ht t (by simp)).1 (ht t (by simp)).2 h1 (fun p hpp => hb (hp p (by simp [hpp]))) (fun p hpp => hs p (by simp [hpp]))
    · exact trodAll_stays hl hb (fun u hu => ht u (by simp [hu])) h2 (fun p hpp => hp p (by simp [hpp])) (fun p hpp => hs p (by simp [hpp]))

theorem trodAll_length {H : Type} {enc : TypeId × Value → H} {P : Program} {W : World} {b : Nat} {sp : Nat → Bool} {hd : Bool} :
    ∀ {ts : List TypeId} {vs : List Value} {ds : List (DataW H)} {ps : List MemPlace}, DataW.TrodAll enc P W b sp hd ts vs ds ps → ds.length = ts.length ∧ vs.length = ts.length
  | [], vs, ds, ps, h => by
    obtain ⟨rfl, rfl, rfl⟩ := trodAll_nil h
    simp
  | t :: ts, vs, ds, ps, h => by
    obtain ⟨v, vs1, d, ds1, a, b, rfl, rfl, rfl, h1, h2⟩ := trodAll_cons h
    have := trodAll_length h2
    simp [this]

/-- The door's own heap meets the condition. -/
theorem door_met (os : Os) (args : Array Value) : laidMetH Tryd.prog laidL ((World.doorLaid Tryd.prog 400 os).forCall (fun _ _ => 0) ⟨#[], args, []⟩).memory :=
  laidMetH_of_parts3 (fuel := 8) (laidMet_of_run' 8 (by kernel_rfl) (by kernel_rfl)) (by kernel_rfl) (by kernel_rfl)

theorem liftT (f : Nat) (fn : Func) (s : ChangeSpec) (hfn : Tryd.prog.funcs[f]? = some fn) (hr : fn.resultTypes = #[4]) (hv : s.vars = [])
    (hspec : ∀ (H : Type) (ds : List (DataW H)), ds.length = fn.params.size → s.fn H ds = { results := [.lit (.bool true)], args := ds })
    (hread : ∀ t ∈ fn.params.toList, Tryd.prog.readableRec t = true ∧ t < Tryd.prog.types.size)
    (walk : ∀ (W : World) (base : Nat) (args : Array Value), args.size = fn.params.size → (∀ (j : Nat) t v, fn.params[j]? = some t → args[j]? = some v → Value.okWide Tryd.prog W .any base t v) → TabAt W →
      Calls Tryd.prog f args W fun e W' => e = .returned (.bool true) ∧ Below W.heap.size W W')
    (os : Os) (started : os.Started) (H : Type) (enc : TypeId × Value → H) (noInit : Tryd.prog.inits.idxOf? f = none)
    (witness : ∃ (w : World) (tape : Tape) (i : Input), w.os = os ∧ (w.forCall tape i).Shaped Tryd.checked.prog ∧ i.vars = [] ∧ Input.okWide Tryd.checked.prog (w.forCall tape i) .any w.heap.size f i ∧
      ((s.pre enc Tryd.checked.prog fn [] false (w.forCall tape i).memory i.args ∧ laidMetH Tryd.prog laidL (w.forCall tape i).memory) ∧ sizedMet enc Tryd.checked.prog fn (OpenSpec.ofChange s) false (w.forCall tape i).memory i.args) ∧ ({} : Assume).holds Tryd.checked.prog (lone (Frame.enter Tryd.checked.prog f i.args .normal) [] (w.forCall tape i))) :
    ReturnsInHanded {} Tryd.checked os f .any (fun w args => (s.pre enc Tryd.prog fn [] false w args ∧ laidMetH Tryd.prog laidL w) ∧ sizedMet enc Tryd.prog fn (OpenSpec.ofChange s) false w args) (s.post enc Tryd.prog fn false true false false) := by
  refine returnsInHanded_of_change_and (C := Tryd.checked) (X := fun w _ => laidMetH Tryd.prog laidL w) (fun _ _ _ hh h => h.of_heap hh) own started noInit hfn witness ?_
  intro W base args ds gs before hval0 hW _ _ hL _
  have hW' := hW
  obtain ⟨p, q, hA0, hV, rfl, hfz, hnd⟩ := hW
  have hA : DataW.TrodAll enc Tryd.prog W 0 (fun _ => true) true fn.params.toList args.toList ds p := hA0
  obtain ⟨hl1, hl2⟩ := trodAll_length hA
  have hsz : args.size = fn.params.size := by simpa using hl2
  rw [hv] at hV
  obtain ⟨rfl, rfl⟩ := trodVars_none hV
  have hsp : s.fn H (ds ++ []) = { results := [.lit (.bool true)], args := ds } := by
    rw [List.append_nil]
    exact hspec H ds (by simpa using hl1)
  have hlt : ∀ x ∈ p, x.block < W.heap.size := fun x hx => by simpa using hW'.lt x (by simp [hx])
  refine (walk W base args hsz hval0 (tab_of_laid hL)).mono fun e W' ⟨he, hb⟩ => ?_
  subst he
  refine ⟨_, rfl, ds, [], p ++ [], [], p, [], hW', ?_, ?_, ?_, hb.frame _, fun h => by cases h⟩
  · rw [hsp, hr]
    exact trodAll_mk1 (shut_bool Tryd.underlying4 _)
  · rw [hsp]
    exact trodAll_stays laidOut (fun h => hb.same h) hread hA hlt (fun x hx => by simpa using hlt x hx)
  · rw [hsp, hv]
    rfl

theorem witnessT (f : Nat) (fn : Func) (s : ChangeSpec) (args : Array Value) (os : Os) (H : Type) (enc : TypeId × Value → H)
    (hsh : ((World.doorLaid Tryd.prog 400 os).forCall (fun _ _ => 0) ⟨#[], args, []⟩).Shaped Tryd.checked.prog)
    (hok : Input.okWideB Tryd.checked.prog ((World.doorLaid Tryd.prog 400 os).forCall (fun _ _ => 0) ⟨#[], args, []⟩) f ⟨#[], args, []⟩ = true)
    (hpre : s.preB enc Tryd.checked.prog fn [] false ((World.doorLaid Tryd.prog 400 os).forCall (fun _ _ => 0) ⟨#[], args, []⟩).memory args 16 = true)
    (hsz : s.sizedB enc Tryd.checked.prog fn false ((World.doorLaid Tryd.prog 400 os).forCall (fun _ _ => 0) ⟨#[], args, []⟩).memory args 16 = true) :
    ∃ (w : World) (tape : Tape) (i : Input), w.os = os ∧ (w.forCall tape i).Shaped Tryd.checked.prog ∧ i.vars = [] ∧ Input.okWide Tryd.checked.prog (w.forCall tape i) .any w.heap.size f i ∧
      ((s.pre enc Tryd.checked.prog fn [] false (w.forCall tape i).memory i.args ∧ laidMetH Tryd.prog laidL (w.forCall tape i).memory) ∧ sizedMet enc Tryd.checked.prog fn (OpenSpec.ofChange s) false (w.forCall tape i).memory i.args) ∧ ({} : Assume).holds Tryd.checked.prog (lone (Frame.enter Tryd.checked.prog f i.args .normal) [] (w.forCall tape i)) :=
  ChangeSpec.witness_shaped (enc := enc) (C := Tryd.checked) (os := os) (X := fun w _ => laidMetH Tryd.prog laidL w) false (World.doorLaid Tryd.prog 400 os) args 16 rfl hsh hok hpre hsz (door_met os _)
end

section
open Go.RowKit Go.Shelf
attribute [local go_sem] Oper.semAt_some

theorem tz64_core (x k idx : Nat) (w : World) (hx0 : ((x : Int) == 0) = false)
    (key : IntKind.u64.wrap (bits BinOp.and IntKind.u64 (x : Int) (IntKind.u64.wrap (-(x : Int))) * 285870213051353865) / 288230376151711744 = (idx : Int))
    (hi : idx < 64) (hk : k < 64) (hcell : w.cell? ⟨6, idx, none⟩ = some (.int .u8 k)) :
    Calls Tryd.prog 52 #[.int .u64 x] w fun e w' => e = .returned (.int .i64 k) ∧ w' = w := by
  go_enter Tryd.func52, Tryd.ntmps52
  go_wp2_with (simp only [key])
  go_ret
  exact ⟨rfl, rfl⟩

theorem tz64 (x : Nat) (h0 : x ≠ 0) (hx : x < 18446744073709551616) (w : World) (hT : TabAt w) :
    Calls Tryd.prog 52 #[.int .u64 x] w fun e w' => e = .returned (.int .i64 (Lib.ctz 64 x)) ∧ w' = w := by
  obtain ⟨hlow, hk⟩ := Lib.lowest_bit 64 x h0 hx
  obtain ⟨hi, htab⟩ := Lib.deBruijn64_at _ hk
  have hcell := hT _ hi
  rw [htab] at hcell
  exact tz64_core x _ _ w (by simp; omega) (tz64_key x _ hx h0 hlow) hi hk hcell

/-- A number of a bit that is set. -/
abbrev BitOf (m : Nat) := { i : Nat // i ∈ bitsL m }
/-- It is handed as an int64. -/
def encB (m : Nat) (x : BitOf m) : Array Value := #[Value.int .i64 x.1]

theorem sub1 (r : Nat) (h0 : r ≠ 0) (h : r < 18446744073709551616) : bits BinOp.and IntKind.u64 (r : Int) (IntKind.u64.wrap ((r : Int) - 1)) = ((r &&& (r - 1) : Nat) : Int) := by
  rw [show IntKind.u64.wrap ((r : Int) - 1) = ((r - 1 : Nat) : Int) by rw [IntKind.wrap_u64]; omega]
  exact bits_and_u64_nat r (r - 1) h (by omega)
theorem and_le (r : Nat) (h0 : r ≠ 0) : r &&& (r - 1) < r := by
  have : r &&& (r - 1) ≤ r - 1 := Nat.and_le_right
  omega

theorem TabAt.below {n : Nat} {w w' : World} (h : TabAt w) (hb : Below n w w') (hn : 6 < n) : TabAt w' := fun j hj => (hb.cell (p := ⟨6, j, none⟩) hn).trans (h j hj)

end

section
open Go.RowKit
set_option maxRecDepth 100000

/-- The numbers of a ground fit their kinds. -/
structure GdOk (G : Gd) : Prop where
  wide : IntKind.i8.has G.wide
  high : IntKind.i8.has G.high
  x : IntKind.u64.has G.x
  c : ∀ i, i < 64 → FloatKind.f32.has (G.c i)
  g : ∀ i, i < 64 → FloatKind.f32.has (G.g i)
  h : ∀ i, i < 64 → True

theorem cell_u64 {W : World} {r : Reach} {base : Nat} {v : Value} (h : Cell.okWide Tryd.prog W r base 30 v) : ∃ n, v = .int .u64 n ∧ IntKind.u64.has n := by
  simp only [Cell.okWide, Tryd.underlying30] at h
  cases v <;> simp_all [Cell.ok]
theorem cell_f32 {W : World} {r : Reach} {base : Nat} {v : Value} (h : Cell.okWide Tryd.prog W r base 22 v) : ∃ n, v = .float .f32 n ∧ FloatKind.f32.has n := by
  simp only [Cell.okWide, Tryd.underlying22] at h
  cases v <;> simp_all [Cell.ok]
theorem mid_len (n a b c d : Nat) : (a :: b :: (List.replicate n c ++ [d])).length = n + 1 + 1 + 1 := by simp
theorem mid_at (n i a b c d : Nat) (h : i < n) : (a :: b :: (List.replicate n c ++ [d]))[2 + i]? = some c := by
  rw [show 2 + i = i + 1 + 1 by omega, List.getElem?_cons_succ, List.getElem?_cons_succ, List.getElem?_append_left (by simpa using h)]
  simp [h]
theorem mid_last (n a b c d : Nat) : (a :: b :: (List.replicate n c ++ [d]))[n + 1 + 1]? = some d := by
  rw [List.getElem?_cons_succ, List.getElem?_cons_succ, List.getElem?_append_right (by simp)]
  simp

end

section
open Go.RowKit
set_option linter.unusedSimpArgs false

/-- Another number at a place. -/
def upd (f : Nat → Nat) (k b : Nat) : Nat → Nat := fun i => if i = k then b else f i

/-- A block holds a ground, and may be written. -/
structure GBox (W : World) (b : Nat) (G : Gd) : Prop where
  at' : GrdAt W b 0 G
  there : W.there b 0 195

theorem GrdAt.range {W : World} {b o : Nat} {G : Gd} (h : GrdAt W b o G) : W.rangeAt b o (GrdL G) := by
  intro j v hv
  have hj : j < 195 := by have := (List.getElem?_eq_some_iff.1 hv).1; rwa [GrdL_length] at this
  by_cases e0 : j = 0
  · subst e0
    obtain rfl := Option.some.inj hv
    exact h.wide
  by_cases e1 : j = 1
  · subst e1
    obtain rfl := Option.some.inj hv
    exact h.high
  obtain ⟨i, rfl⟩ : ∃ i, j = i + 1 + 1 := ⟨j - 2, by omega⟩
  simp only [GrdL, List.getElem?_cons_succ] at hv
  by_cases a1 : i < 64
  · rw [List.getElem?_append_left (by rw [Fld_length]; exact a1)] at hv
    have := h.c i v hv
    rwa [show o + 2 + i = o + (i + 1 + 1) by omega] at this
  rw [List.getElem?_append_right (by rw [Fld_length]; omega), Fld_length] at hv
  by_cases a2 : i - 64 < 64
  · rw [List.getElem?_append_left (by rw [Fld_length]; exact a2)] at hv
    have := h.g (i - 64) v hv
    rwa [show o + 66 + (i - 64) = o + (i + 1 + 1) by omega] at this
  rw [List.getElem?_append_right (by rw [Fld_length]; omega), Fld_length] at hv
  by_cases a3 : i - 64 - 64 < 64
  · rw [List.getElem?_append_left (by rw [Fld_length]; exact a3)] at hv
    have := h.h (i - 64 - 64) v hv
    rwa [show o + 130 + (i - 64 - 64) = o + (i + 1 + 1) by omega] at this
  rw [List.getElem?_append_right (by rw [Fld_length]; omega), Fld_length] at hv
  obtain rfl : i = 192 := by omega
  obtain rfl := Option.some.inj hv
  exact h.x

theorem GBox.range {W : World} {b : Nat} {G : Gd} (h : GBox W b G) : W.rangeAt b 0 (GrdL G) := h.at'.range
theorem GBox.below {n : Nat} {W W' : World} {b : Nat} {G : Gd} (h : GBox W b G) (hb : Below n W W') (hn : b < n) : GBox W' b G :=
  ⟨h.at'.below hb hn, there_below h.there hb hn⟩
theorem GBox.of_row {W : World} {b : Nat} {G : Gd} {t : TypeId} (h : W.heap[b]? = some (.cells (Grd G) t)) : GBox W b G :=
  ⟨grdAt (rangeAt_row h), there_row h (Grd_size G)⟩
theorem GBox.lt {W : World} {b : Nat} {G : Gd} (h : GBox W b G) : b < W.heap.size := World.block_lt_of_cell? W ⟨b, 0, none⟩ h.at'.wide

theorem cell_other {W : World} {p q : Addr} {v : Value} (h : p ≠ q) : (W.setCell p v).cell? q = W.cell? q := World.cell?_setCell_other _ _ _ _ h
theorem range_setCell_far {W : World} {b o b' k : Nat} {cs : List Value} {v : Value} (h : W.rangeAt b o cs) (hne : b' ≠ b ∨ k < o ∨ o + cs.length ≤ k) : (W.setCell ⟨b', k, none⟩ v).rangeAt b o cs := fun j x hx => by
  have hj : j < cs.length := (List.getElem?_eq_some_iff.1 hx).1
  rw [World.cell?_setCell_other _ _ _ _ (fun e => by
    have h1 : b' = b := by injection e
    have h2 : k = o + j := by injection e
    omega)]
  exact h j x hx
theorem there_setCell {W : World} {b o n : Nat} {p : Addr} {v : Value} (h : W.there b o n) : (W.setCell p v).there b o n := fun j hj => by
  refine ⟨?_, by rw [World.frozen?_setCell]; exact (h j hj).2⟩
  by_cases e : p = ⟨b, o + j, none⟩
  · subst e
    rw [World.cell?_setCell_same' _ _ _ (h j hj).1]
    rfl
  · rw [World.cell?_setCell_other _ _ _ _ e]
    exact (h j hj).1
/-- A store elsewhere. -/
theorem GBox.far {W : World} {b b' k : Nat} {G : Gd} {v : Value} (h : GBox W b G) (hne : b' ≠ b) : GBox (W.setCell ⟨b', k, none⟩ v) b G :=
  have hc : ∀ o, (W.setCell ⟨b', k, none⟩ v).cell? ⟨b, o, none⟩ = W.cell? ⟨b, o, none⟩ := fun o => cell_other (fun e => hne (by injection e))
  ⟨⟨(hc _).trans h.at'.wide, (hc _).trans h.at'.high, range_setCell_far h.at'.c (.inl hne), range_setCell_far h.at'.g (.inl hne), range_setCell_far h.at'.h (.inl hne), (hc _).trans h.at'.x⟩, there_setCell h.there⟩
theorem GBox.fars {b b' : Nat} {G : Gd} (hne : b' ≠ b) : ∀ {vs : List Value} {k : Nat} {W : World}, GBox W b G → GBox (W.setCells b' k vs) b G
  | [], _, _, h => h
  | v :: vs, k, W, h => by rw [World.setCells]; exact GBox.fars hne (h.far hne)

theorem Fld_upd {W : World} {b o k x : Nat} {f : Nat → Nat} (h : W.rangeAt b o (Fld f).toList) (hk : k < 64) (ht : (W.cell? ⟨b, o + k, none⟩).isSome = true) :
    (W.setCell ⟨b, o + k, none⟩ (.float .f32 x)).rangeAt b o (Fld (upd f k x)).toList := fun j v hv => by
  have hj : j < 64 := by have := (List.getElem?_eq_some_iff.1 hv).1; rwa [Fld_length] at this
  have hv' : v = .float .f32 (upd f k x j) := by
    have := Fld_at (upd f k x) j hj
    rw [Array.getElem?_toList, this] at hv
    exact (Option.some.inj hv).symm
  subst hv'
  by_cases e : j = k
  · subst e
    rw [World.cell?_setCell_same' _ _ _ ht]
    simp [upd]
  · rw [World.cell?_setCell_other _ _ _ _ (fun h => e (by have h2 : o + k = o + j := (by injection h); omega))]
    have := Grd_fld h j hj
    simpa [upd, e] using this

theorem GBox.at_some {W : World} {b : Nat} {G : Gd} (h : GBox W b G) (k : Nat) (hk : k < 195) : (W.cell? ⟨b, k, none⟩).isSome = true := by
  have := (h.there k hk).1
  rwa [Nat.zero_add] at this
theorem GBox.free {W : World} {b : Nat} {G : Gd} (h : GBox W b G) (k : Nat) (hk : k < 195) : W.frozen? ⟨b, k, none⟩ = false := by
  have := (h.there k hk).2
  rwa [Nat.zero_add] at this

theorem cell_same_block {W : World} {b k o : Nat} {v : Value} (h : k ≠ o) : (W.setCell ⟨b, k, none⟩ v).cell? ⟨b, o, none⟩ = W.cell? ⟨b, o, none⟩ := cell_other (fun e => h (by injection e))
theorem GBox.putC {W : World} {b k x : Nat} {G : Gd} (h : GBox W b G) (hk : k < 64) : GBox (W.setCell ⟨b, 2 + k, none⟩ (.float .f32 x)) b { G with c := upd G.c k x } :=
  ⟨⟨(cell_same_block (by omega)).trans h.at'.wide, (cell_same_block (by omega)).trans h.at'.high, by have := h.at'.c; rw [Nat.zero_add] at this ⊢; exact Fld_upd this hk (h.at_some _ (by omega)),
    range_setCell_far h.at'.g (by rw [Fld_length]; omega), range_setCell_far h.at'.h (by rw [Fld_length]; omega), (cell_same_block (by omega)).trans h.at'.x⟩, there_setCell h.there⟩
theorem GBox.putG {W : World} {b k x : Nat} {G : Gd} (h : GBox W b G) (hk : k < 64) : GBox (W.setCell ⟨b, 66 + k, none⟩ (.float .f32 x)) b { G with g := upd G.g k x } :=
  ⟨⟨(cell_same_block (by omega)).trans h.at'.wide, (cell_same_block (by omega)).trans h.at'.high, range_setCell_far h.at'.c (by rw [Fld_length]; omega), by have := h.at'.g; rw [Nat.zero_add] at this ⊢; exact Fld_upd this hk (h.at_some _ (by omega)),
    range_setCell_far h.at'.h (by rw [Fld_length]; omega), (cell_same_block (by omega)).trans h.at'.x⟩, there_setCell h.there⟩
theorem GBox.putH {W : World} {b k x : Nat} {G : Gd} (h : GBox W b G) (hk : k < 64) : GBox (W.setCell ⟨b, 130 + k, none⟩ (.float .f32 x)) b { G with h := upd G.h k x } :=
  ⟨⟨(cell_same_block (by omega)).trans h.at'.wide, (cell_same_block (by omega)).trans h.at'.high, range_setCell_far h.at'.c (by rw [Fld_length]; omega), range_setCell_far h.at'.g (by rw [Fld_length]; omega),
    by have := h.at'.h; rw [Nat.zero_add] at this ⊢; exact Fld_upd this hk (h.at_some _ (by omega)), (cell_same_block (by omega)).trans h.at'.x⟩, there_setCell h.there⟩
theorem GBox.putX {W : World} {b : Nat} {x : Int} {G : Gd} (h : GBox W b G) : GBox (W.setCell ⟨b, 194, none⟩ (.int .u64 x)) b { G with x := x } :=
  ⟨⟨(cell_same_block (by omega)).trans h.at'.wide, (cell_same_block (by omega)).trans h.at'.high, range_setCell_far h.at'.c (by rw [Fld_length]; omega), range_setCell_far h.at'.g (by rw [Fld_length]; omega),
    range_setCell_far h.at'.h (by rw [Fld_length]; omega), World.cell?_setCell_same' _ _ _ (h.at_some 194 (by omega))⟩, there_setCell h.there⟩
/-- A whole ground is stored. -/
theorem GBox.store {W : World} {b : Nat} {G H : Gd} (h : GBox W b G) : GBox (W.setCells b 0 (GrdL H)) b H :=
  ⟨grdAt (World.rangeAt_setCells_same _ _ _ _ (by rw [GrdL_length]; exact h.there)), World.there_setCells h.there _ _ _⟩

/-- One ground is boxed. -/
theorem gbox1 (G : Gd) (t : TypeId) (w : World) : ∃ W, w.alloc (.cells (Grd G) t) = W ∧ W.heap.size = w.heap.size + 1 ∧ GBox W w.heap.size G ∧ Below w.heap.size w W :=
  ⟨_, rfl, by simp, .of_row (heap_alloc_last w _), (Below.refl _ _).alloc (Nat.le_refl _) _⟩
/-- Two grounds are boxed. -/
theorem gbox2 (G H : Gd) (t u : TypeId) (w : World) : ∃ W, (w.alloc (.cells (Grd G) t)).alloc (.cells (Grd H) u) = W ∧ W.heap.size = w.heap.size + 1 + 1 ∧ GBox W w.heap.size G ∧ GBox W (w.heap.size + 1) H ∧ Below w.heap.size w W := by
  obtain ⟨W1, h1, z1, g1, b1⟩ := gbox1 G t w
  obtain ⟨W2, h2, z2, g2, b2⟩ := gbox1 H u W1
  refine ⟨W2, by rw [h1, h2], by omega, g1.below b2 (by omega), by rw [← z1]; exact g2, b1.trans (b2.mono (by omega))⟩

/-- The result: a ground in a block, and a number. -/
theorem results_grd_int {P : Program} {fn : Func} {p q : Tmp} {ty : TypeId} {D : TypeDesc} (h : fn.results = #[.cell p ty, .tmp q]) (tmps : Array Value) (w : World) (b : Nat) (G : Gd) (n : Int)
    (hp : tmps.getD p undef = .pointer (some ⟨b, 0, none⟩)) (hq : tmps.getD q undef = .int .i64 n) (hc : w.rangeAt b 0 (GrdL G)) (hu : P.underlying ty = some D) (hd : D.isRow = true) (hi : (P.info? ty).map (·.size) = some 195) :
    (results fn tmps).run P w = .ok (.tuple #[.agg (Grd G), .int .i64 n]) w := by
  have hp' : tmps[p]?.getD undef = .pointer (some ⟨b, 0, none⟩) := by simpa using hp
  have hq' : tmps[q]?.getD undef = .int .i64 n := by simpa using hq
  have := run_loadVar_mid (P := P) w b 0 ty (GrdL G) D hc hu hd (by rw [GrdL_length]; exact hi)
  simp [results, h, hp', hq', asAddr, this, Grd]
end

section
open Go.RowKit

/-- All numbers are equal, as Go compares them. -/
def eqF (f g : Nat → Nat) : Bool := (List.range 64).all fun i => FloatKind.f32.format.order (f i) (g i) == some Ordering.eq

theorem part_fld (f : Nat → Nat) (i : Nat) (hi : i < 64) (w : World) : (part 22 (Fld f) (i * 1)).run Tryd.prog w = .ok (.float .f32 (f i)) w := by
  have h := Fld_at f i hi
  simp [part, isAgg, run_underlying Tryd.underlying22, h]
theorem equal_float (d : Nat) (a b : Nat) (w : World) : (Op.equalIn (d + 1) 22 (.float .f32 a) (.float .f32 b)).run Tryd.prog w = .ok (FloatKind.f32.format.order a b == some Ordering.eq) w := by
  simp [Op.equalIn, run_underlying Tryd.underlying22, Op.floatEq]

theorem eqItems_fld (d : Nat) (f g : Nat → Nat) (w : World) : ∀ (is : List Nat), (∀ i ∈ is, i < 64) →
    (Op.eqItems (d + 1) 22 1 (Fld f) (Fld g) is).run Tryd.prog w = .ok (is.all fun i => FloatKind.f32.format.order (f i) (g i) == some Ordering.eq) w
  | [], _ => by simp [Op.eqItems]
  | i :: is, h => by
    have ih := eqItems_fld d f g w is (fun j hj => h j (by simp [hj]))
    have hi := h i (by simp)
    simp only [Op.eqItems, Sem.run_bind, part_fld f i hi w, part_fld g i hi w, equal_float, Result.andThen_ok, List.all_cons]
    cases FloatKind.f32.format.order (f i) (g i) == some Ordering.eq
    · simp
    · simpa using ih
theorem info_f32 : ∃ i, Tryd.prog.info? 22 = some i := by
  have h := Tryd.underlying22
  unfold Program.underlying at h
  cases hi : Tryd.prog.info? 22 with
  | none => simp [hi] at h
  | some i => exact ⟨i, rfl⟩
theorem cells_f32 : Tryd.prog.cellsOf 22 = 1 := by kernel_rfl
end

section
open Go.RowKit Go.Shelf
attribute [local go_sem] Oper.semAt_some
set_option linter.unusedSimpArgs false

/-- Cells and their marks are as they were. -/
structure CK (A B : World) : Prop where
  cell : ∀ {p : Addr} {v : Value}, A.cell? p = some v → B.cell? p = some v
  frozen : ∀ {p : Addr} {v : Value}, A.cell? p = some v → B.frozen? p = A.frozen? p
  size : A.heap.size ≤ B.heap.size
theorem CK.of_grown {A B : World} {row : Option Nat} (hg : A.grownBy B row) (hr : ∀ r, row = some r → ∃ o : Obj, A.heap[r]? = some o ∧ o.isCells = false) : CK A B :=
  ⟨fun h => cell_kept h hg hr, fun h => frozen_kept h hg hr, (by obtain ⟨_, _, _, h, _⟩ := hg; exact h)⟩
theorem CK.put {A : World} {D : Nat} {x : Obj} (hD : A.heap[D]? = some (.deferred (some []))) : CK A (A.putObj D x) :=
  CK.of_grown (grownBy_putObj' A D x) (fun r e => by cases e; exact ⟨_, hD, rfl⟩)
theorem CK.refl (A : World) : CK A A := ⟨fun h => h, fun _ => rfl, Nat.le_refl _⟩
theorem CK.range {A B : World} (h : CK A B) {b o : Nat} {cs : List Value} (g : A.rangeAt b o cs) : B.rangeAt b o cs := fun j v hv => h.cell (g j v hv)
theorem CK.there {A B : World} (h : CK A B) {b o n : Nat} (g : A.there b o n) : B.there b o n := fun j hj => by
  obtain ⟨v, hv⟩ := Option.isSome_iff_exists.1 (g j hj).1
  exact ⟨by rw [h.cell hv]; rfl, (h.frozen hv).trans (g j hj).2⟩
theorem CK.grd {A B : World} (h : CK A B) {b o : Nat} {G : Gd} (g : GrdAt A b o G) : GrdAt B b o G :=
  ⟨h.cell g.wide, h.cell g.high, h.range g.c, h.range g.g, h.range g.h, h.cell g.x⟩
theorem CK.box {A B : World} (h : CK A B) {b : Nat} {G : Gd} (g : GBox A b G) : GBox B b G := ⟨h.grd g.at', h.there g.there⟩
theorem CK.tab {A B : World} (h : CK A B) (g : TabAt A) : TabAt B := fun j hj => h.cell (g j hj)

/-- How a round ends well. -/
theorem round_ok {α : Type} {Kp : World → World → Prop} {I : List α → World → Prop} {Ix : Code → List α → World → Prop} {xs : List α} {W W' : World} {a : Act} (h1 : KeepsOthers W W') (h2 : Kp W W') (h3 : I xs W') : ownPostK Kp I Ix xs W .normal a W' := ⟨h1, h2, h3⟩

/-- The numbers, out of the bits. -/
def nos {m : Nat} (xs : List (BitOf m)) : List Nat := xs.map (·.1)
theorem nos_snoc {m : Nat} (xs : List (BitOf m)) (x : BitOf m) : nos (xs ++ [x]) = nos xs ++ [x.1] := by simp [nos]

/-- The end of a function behind such a loop. -/
theorem ret_marks {fn : Func} {R : Ending → World → Prop} {T : Array Value} {W : World} {D : Nat} {v : Value} (hK : W.heap[D]? = some (.deferred (some [])))
    (hres : ∀ W', CK W W' → (results fn T).run Tryd.prog W' = .ok v W') (h : ∀ W', CK W W' → (∀ n, n ≤ D → Below n W W') → R (.returned v) W') :
    bodyPostM Fence.wide 6 Tryd.prog fn R .ret { tmps := T, defers := [{ target := .collected D, args := #[] }] } W := by
  have hDl : D < W.heap.size := (Array.getElem?_eq_some_iff.1 hK).1
  refine ⟨by simp, .inl ⟨_, _, rfl, run_takeDeferred hK, ?_⟩⟩
  exact ⟨_, hres _ (CK.put hK), h _ (CK.put hK) fun n hn => (Below.refl n W).grown (grownBy_putObj' W D _) (by omega) (fun k e => by cases e; omega)⟩
end
end Go.Proofs.YtafiiliglbepjaaDoor
