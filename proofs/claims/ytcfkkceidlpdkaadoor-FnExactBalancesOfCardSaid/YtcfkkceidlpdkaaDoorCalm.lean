/- Regions that draw their order, by a class of worlds: operations that leave the class alone, whatever they yield within a set, in one order; behind them a plan. No condition. -/
import Derived.Test.YtcfkkceidlpdkaaDoorPlan
import Derived.TacticsIn
import Derived.OrdersIn
import Derived.RangeFuncCalls
namespace Go.Proofs.YtcfkkceidlpdkaaDoor
open Go.RowKit

section
variable {P : Program} {ops : Array Oper} {Q : Exit → Act → World → Prop} {md : Region.Mode} {S : World → Prop}

/-- What is asked of an operation's run: it yields one of V, and leaves a world of the class. -/
def CalmUpon (P : Program) (S : World → Prop) (V : Value → Prop) : Result Next → Prop
  | .ok (.value u) w' => V u ∧ S w'
  | .ok .skip w' => V undef ∧ S w'
  | .ok (.enter f args) w' => Calls P f args w' (fun e w'' => ∃ v, e = .returned v ∧ V v ∧ S w'')
  | _ => False

/-- In every world of the class the operation yields one of V, and leaves a world of the class. -/
def CalmAt (P : Program) (ops : Array Oper) (S : World → Prop) (o : Oper) (V : Value → Prop) (a : Act) : Prop :=
  (Region.wanted o (yielded ops a.tmps) = true ∧ ∀ w, S w → CalmUpon P S V ((execOp a.eval o).run P w)) ∨ (Region.wanted o (yielded ops a.tmps) = false ∧ V undef)

theorem CalmAt.of_same {o : Oper} {V : Value → Prop} {a a' : Act} (hy : CalmAt P ops S o V a) (he : execOp a'.eval o = execOp a.eval o)
    (hw : Region.wanted o (yielded ops a'.tmps) = Region.wanted o (yielded ops a.tmps)) : CalmAt P ops S o V a' := by
  unfold CalmAt at *
  rw [he, hw]
  exact hy

theorem CalmAt.wpOp {i : Nat} {o : Oper} {V : Value → Prop} {a : Act} (hi : ops[i]? = some o) (hy : CalmAt P ops S o V a) {K : Act → World → Prop} {w : World} (hS : S w)
    (h : ∀ v w', V v → S w' → K (a.put o.dst v) w') : wpOp P ops Q i K a w := by
  unfold Go.wpOp
  simp only [hi]
  rcases hy with ⟨hw, hv⟩ | ⟨hw, hv⟩
  · simp only [hw, if_true]
    have h1 := hv w hS
    refine .inl ?_
    unfold Oper.wp
    generalize (execOp a.eval o).run P w = r at h1
    cases r with
    | ok n w' =>
      cases n <;> simp only [CalmUpon] at h1 <;> simp only [Oper.upon]
      case value u => exact h _ _ h1.1 h1.2
      case skip => exact h _ _ h1.1 h1.2
      case enter f args =>
        refine Calls.mono h1 fun e w'' he => ?_
        obtain ⟨v, rfl, hV, hS'⟩ := he
        exact h _ _ hV hS'
    | halt x w' => simp only [CalmUpon] at h1
  · simp only [hw, Bool.false_eq_true, if_false]
    exact h _ _ hv hS

/-- Whatever order is picked from here on: 'fuel' operations that are not B's come up, each calm. -/
def wpAnyC (P : Program) (md : Region.Mode) (ops : Array Oper) (S : World → Prop) (B : List Nat) (Vs : Nat → Value → Prop) (E : Array Bool → Act → Prop) : Nat → Array Bool → Act → Prop
  | 0, listed, a => (∀ j ∈ Region.ready md ops listed, j ∈ B) ∧ E listed a
  | fuel + 1, listed, a => Region.ready md ops listed ≠ [] ∧ ∀ i ∈ Region.ready md ops listed, i ∉ B ∧ ∀ o, ops[i]? = some o → CalmAt P ops S o (Vs i) a ∧ ∀ v, Vs i v → wpAnyC P md ops S B Vs E fuel (listed.setIfInBounds i true) (a.put o.dst v)

theorem wpAny_of_calm {B : List Nat} {Vs : Nat → Value → Prop} {E : Array Bool → Act → Prop} {n : Nat} (hE : ∀ listed a w, S w → E listed a → wpAny P md ops Q n listed a w) : ∀ (fuel : Nat) (listed : Array Bool) (a : Act) (w : World), S w →
    wpAnyC P md ops S B Vs E fuel listed a → wpAny P md ops Q (n + fuel) listed a w
  | 0, listed, a, w, hS, h => hE _ _ _ hS h.2
  | fuel + 1, listed, a, w, hS, h => ⟨fun h0 => absurd h0 h.1, fun i hi => by
      obtain ⟨_, o, ho, _⟩ := mem_ready.1 hi
      obtain ⟨h1, h2⟩ := (h.2 i hi).2 o ho
      exact h1.wpOp ho hS fun v w' hV hS' => wpAny_of_calm hE fuel _ _ _ hS' (h2 v hV)⟩

/-- Those of B wait for all others. -/
def waitsB (md : Region.Mode) (ops : Array Oper) (B : List Nat) : Bool :=
  B.all fun b => (List.range ops.size).all fun i => B.contains i || (match ops[b]? with
    | some o => o.after.any fun e => e.on == i && Region.binds md e
    | none => false)

theorem waitsB_spec {B : List Nat} (h : waitsB md ops B = true) {b i : Nat} (hb : b ∈ B) (hi : i ∉ B) {o : Oper} (ho : ops[i]? = some o) {listed : Array Bool} (hu : listed.getD i true = false) : b ∉ Region.ready md ops listed := by
  intro hr
  obtain ⟨_, ob, hob, hall⟩ := mem_ready.1 hr
  simp only [waitsB, List.all_eq_true, List.mem_range] at h
  have h1 := h b hb i (Array.getElem?_eq_some_iff.1 ho).1
  simp only [hob, Bool.or_eq_true, List.contains_iff_mem, hi, false_or, Array.any_eq_true] at h1
  obtain ⟨k, hk, h2⟩ := h1
  simp only [Bool.and_eq_true, beq_iff_eq] at h2
  have h3 := hall _ (Array.getElem_mem hk) h2.2
  rw [h2.1] at h3
  rcases Nat.lt_or_ge i listed.size with h' | h'
  · simp [h'] at hu h3; rw [hu] at h3; cases h3
  · simp [Array.getElem?_eq_none h'] at h3

theorem wpAnyC_first {B : List Nat} {Vs : Nat → Value → Prop} {E : Array Bool → Act → Prop} {i : Nat} {oi : Oper} (hB : waitsB md ops B = true) (hiB : i ∉ B) (hi : ops[i]? = some oi) (hne : ∃ v, Vs i v) (hsel : ∀ (j : Nat) (o : Oper) cs b, ops[j]? = some o → o.op ≠ .select cs b) :
    ∀ (fuel : Nat) (listed : Array Bool) (a : Act),
      (∀ j oj, ops[j]? = some oj → j ≠ i → listed.getD j true = false → (∀ e ∈ oj.after, Region.binds md e = true → e.on ≠ i) → oi.apart ops oj = true) →
      i ∈ Region.ready md ops listed → CalmAt P ops S oi (Vs i) a →
      (∀ v, Vs i v → wpAnyC P md ops S B Vs E fuel (listed.setIfInBounds i true) (a.put oi.dst v)) → wpAnyC P md ops S B Vs E (fuel + 1) listed a := by
  intro fuel
  induction fuel with
  | zero =>
    intro listed a _ hr hy H
    refine ⟨fun h => (by rw [h] at hr; cases hr), fun j hj => ?_⟩
    by_cases hji : j = i
    · subst hji
      refine ⟨hiB, fun o ho => ?_⟩
      obtain rfl := Option.some.inj (hi.symm.trans ho)
      exact ⟨hy, H⟩
    · obtain ⟨v, hv⟩ := hne
      have h1 := (H v hv).1 j (ready_mono hj hji)
      exact absurd hj (waitsB_spec hB h1 hiB hi (mem_ready.1 hr).1)
  | succ fuel ih =>
    intro listed a hfree hr hy H
    refine ⟨fun h => (by rw [h] at hr; cases hr), fun j hj => ?_⟩
    by_cases hji : j = i
    · subst hji
      refine ⟨hiB, fun o ho => ?_⟩
      obtain rfl := Option.some.inj (hi.symm.trans ho)
      exact ⟨hy, H⟩
    · obtain ⟨v0, hv0⟩ := hne
      have hjr := ready_mono hj hji
      obtain ⟨hjB, _⟩ := (H v0 hv0).2 j hjr
      refine ⟨hjB, fun oj hoj => ?_⟩
      obtain ⟨hjun, oj', hoj', hall⟩ := mem_ready.1 hj
      obtain rfl := Option.some.inj (hoj'.symm.trans hoj)
      have hnot : ∀ e ∈ oj'.after, Region.binds md e = true → e.on ≠ i := fun e he hb heq => by
        have h1 := hall e he hb
        have h0 := (mem_ready.1 hr).1
        rw [heq] at h1
        rcases Nat.lt_or_ge i listed.size with h' | h'
        · simp [h'] at h0 h1; rw [h0] at h1; cases h1
        · simp [Array.getElem?_eq_none h'] at h1
      have hap := hfree j oj' hoj hji hjun hnot
      obtain ⟨p1, p2, p3⟩ := Oper.apart_spec hap
      have hsi : ∀ cs b, oi.op ≠ .select cs b := fun cs b => hsel i oi cs b hi
      have hsj : ∀ cs b, oj'.op ≠ .select cs b := fun cs b => hsel j oj' cs b hoj
      have hyj : ∀ v, Vs i v → CalmAt P ops S oj' (Vs j) a := fun v hv =>
        (((H v hv).2 j hjr).2 oj' hoj).1.of_same (execOp_put oj' hsj a oi.dst v p1).symm (wanted_put oj' a oi.dst v p1).symm
      refine ⟨hyj v0 hv0, fun u hu => ?_⟩
      have hfree' : ∀ k ok, ops[k]? = some ok → k ≠ i → (listed.setIfInBounds j true).getD k true = false →
          (∀ e ∈ ok.after, Region.binds md e = true → e.on ≠ i) → oi.apart ops ok = true := fun k ok hk hki hun hno => by
        refine hfree k ok hk hki ?_ hno
        by_cases hjk : j = k
        · subst hjk; exact hjun
        · rw [getD_set_ne true hjk] at hun; exact hun
      refine ih (listed.setIfInBounds j true) (a.put oj'.dst u) hfree' (ready_mono hr (Ne.symm hji)) (hy.of_same (execOp_put oi hsi a oj'.dst u p3) (wanted_put oi a oj'.dst u p3)) fun v hv => ?_
      have h4 := (((H v hv).2 j hjr).2 oj' hoj).2 u hu
      rw [Array.setIfInBounds_comm _ _ hji, ← Act.put_comm a v u p2]
      exact h4

/-- The order fits the edges; behind it those of B alone may come up. -/
def calmB (md : Region.Mode) (ops : Array Oper) (B : List Nat) : List Nat → Array Bool → Bool
  | [], listed => (Region.ready md ops listed).all fun j => B.contains j
  | i :: r, listed => (Region.ready md ops listed).contains i && !B.contains i && Region.free md ops listed i && calmB md ops B r (listed.setIfInBounds i true)

/-- Those that have come up behind the order. -/
def listedBy : List Nat → Array Bool → Array Bool
  | [], l => l
  | i :: r, l => listedBy r (l.setIfInBounds i true)

/-- What the order owes. -/
def wpCalm (P : Program) (ops : Array Oper) (S : World → Prop) (E : Act → Prop) : List (Nat × (Value → Prop)) → Act → Prop
  | [], a => E a
  | (i, V) :: r, a => ∃ o, ops[i]? = some o ∧ (∃ v, V v) ∧ CalmAt P ops S o V a ∧ ∀ v, V v → wpCalm P ops S E r (a.put o.dst v)

/-- The same, shut. -/
structure CalmOk (P : Program) (ops : Array Oper) (S : World → Prop) (E : Act → Prop) (l : List (Nat × (Value → Prop))) (a : Act) : Prop where
  out : wpCalm P ops S E l a

/-- The set of a number's values. -/
def Vof (l : List (Nat × (Value → Prop))) (i : Nat) : Value → Prop := match l.find? (fun p => p.1 == i) with
  | some p => p.2
  | none => fun _ => False

theorem wpCalm_any {B : List Nat} {Vs : Nat → Value → Prop} {E : Act → Prop} (hB : waitsB md ops B = true) (hs : Region.noSelect ops = true) (L : Array Bool) : ∀ (l : List (Nat × (Value → Prop))) (listed : Array Bool) (a : Act),
    (∀ p ∈ l, Vs p.1 = p.2) → listedBy (l.map (·.1)) listed = L → calmB md ops B (l.map (·.1)) listed = true → wpCalm P ops S E l a → wpAnyC P md ops S B Vs (fun li a => li = L ∧ E a) l.length listed a
  | [], listed, a, _, hL, hb, h => ⟨fun j hj => by simpa using (List.all_eq_true.1 hb) j hj, hL, h⟩
  | (i, V) :: r, listed, a, hV, hL, hb, h => by
    obtain ⟨o, ho, hne, hc, hn⟩ := h
    simp only [List.map_cons, calmB, Bool.and_eq_true, Bool.not_eq_true'] at hb
    obtain ⟨⟨⟨h1, h2⟩, h3⟩, h4⟩ := hb
    have hVi : Vs i = V := hV (i, V) (by simp)
    refine wpAnyC_first hB (by simpa using h2) ho (by rw [hVi]; exact hne) (Region.noSelect_spec hs) r.length listed a (Region.free_spec ho h3) (by simpa using h1) (by rw [hVi]; exact hc) fun v hv => ?_
    rw [hVi] at hv
    exact wpCalm_any hB hs L r _ _ (fun p hp => hV p (by simp [hp])) (by simpa [listedBy] using hL) h4 (hn v hv)

def distinct : List Nat → Bool
  | [] => true
  | i :: r => !r.contains i && distinct r
theorem Vof_spec : ∀ (l : List (Nat × (Value → Prop))), distinct (l.map (·.1)) = true → ∀ p ∈ l, Vof l p.1 = p.2
  | [], _, p, hp => by cases hp
  | q :: r, hd, p, hp => by
    simp only [List.map_cons, distinct, Bool.and_eq_true, Bool.not_eq_true', List.contains_eq_mem, List.mem_map, decide_eq_false_iff_not] at hd
    unfold Vof
    rw [List.find?_cons]
    by_cases e : q.1 = p.1
    · rcases List.mem_cons.1 hp with rfl | hp
      · simp
      · exact absurd ⟨p, hp, e.symm⟩ hd.1
    · have h1 : (q.1 == p.1) = false := by simpa using e
      rw [h1]
      rcases List.mem_cons.1 hp with rfl | hp
      · exact absurd rfl e
      · exact Vof_spec r hd.2 p hp

/-- A region is left at its end alone. -/
def Clean (Q : Exit → Act → World → Prop) : Exit → Act → World → Prop
  | .normal, a, w => Q .normal a w
  | _, _, _ => False
theorem Clean.normal {a : Act} {w : World} (h : Q .normal a w) : Clean Q .normal a w := h
theorem Clean.imp : ∀ (e : Exit) (a : Act) (w : World), Clean Q e a w → Q e a w := fun e a w h => by
  cases e <;> first | exact h | exact (h : False).elim

/-- First the calm ones, 'idx' their numbers, then a plan for those of B. -/
theorem calm_any {a : Act} {w : World} (idx : List Nat) (B : List Nat) (plan : Pl) (S : World → Prop) (l : List (Nat × (Value → Prop))) (hs : Region.noSelect ops = true)
    (hw : waitsB .any ops B = true) (hc : calmB .any ops B idx (Array.replicate ops.size false) = true) (hd : distinct idx = true) (hb : planB .any ops plan (listedBy idx (Array.replicate ops.size false)) = true) (hz : decide (idx.length + plan.len = ops.size) = true)
    (hl : l.map (·.1) = idx) (hS : S w) (h : CalmOk P ops S (fun a => ∀ w', S w' → PlanOk P ops (Clean Q) (fun _ => True) plan a w') l a) : wpAny P .any ops (Clean Q) ops.size (Array.replicate ops.size false) a w := by
  subst hl
  have hz' := of_decide_eq_true hz
  simp only [List.length_map] at hz'
  have := wpAny_of_calm (P := P) (md := .any) (ops := ops) (S := S) (Q := Clean Q) (n := plan.len) (B := B) (Vs := Vof l) (E := fun li a => li = listedBy (l.map (·.1)) (Array.replicate ops.size false) ∧ ∀ w', S w' → PlanOk P ops (Clean Q) (fun _ => True) plan a w')
    (fun li a w' hS' ⟨e, hE⟩ => by subst e; exact wpAny_of_held _ _ _ _ (wpPlan_any hs (fun _ _ _ _ _ h => h) plan _ _ _ _ hb (Nat.le_refl _) trivial (hE w' hS').out))
    l.length (Array.replicate ops.size false) a w hS (wpCalm_any hw hs _ l _ _ (Vof_spec l hd) rfl hc h.out)
  rw [show plan.len + l.length = ops.size by omega] at this
  exact this

/-- THE BEGINNING. -/
theorem wp_region_calm {ops' : Array Oper} {id : Nat} {a : Act} {w : World} (idx : List Nat) (B : List Nat) (plan : Pl) (S : World → Prop) (l : List (Nat × (Value → Prop))) (hn : ops = ops') (hm : P.follows .mixedOrders = true) (hs : Region.noSelect ops' = true)
    (hw : waitsB .any ops' B = true) (hc : calmB .any ops' B idx (Array.replicate ops'.size false) = true) (hd : distinct idx = true) (hb : planB .any ops' plan (listedBy idx (Array.replicate ops'.size false)) = true) (hz : decide (idx.length + plan.len = ops'.size) = true)
    (hl : l.map (·.1) = idx) (hS : S w.drew) (h : CalmOk P ops' S (fun a => ∀ w', S w' → PlanOk P ops' (Clean Q) (fun _ => True) plan a w') l a) : (Code.region id ops true).wp P Q a w := by
  subst hn
  exact Code.wp_mono Clean.imp (wp_region_any hm (calm_any idx B plan S l hs hw hc hd hb hz hl hS h))

/-- No operation of a region defers. -/
def noDeferB (ops : Array Oper) : Bool := ops.all fun o => match o.op with
  | .defer _ => false
  | _ => true
theorem noDefer_spec (h : noDeferB ops = true) {i : Nat} {o : Oper} (ho : ops[i]? = some o) : ∀ c, o.op ≠ .defer c := fun c e => by
  have := Array.all_eq_true_iff_forall_mem.1 h o (Array.mem_of_getElem? ho)
  simp [e] at this

theorem op_in {o : Oper} {a : Act} {w : World} {K : Act → World → Prop} {n l : Nat} (hd : ∀ c, o.op ≠ .defer c) (h : o.wp P a w K (Clean Q)) : o.wpIn (Fence.wide.inRound l) n P a w K Q := by
  refine ⟨fun _ _ => trivial, ?_⟩
  rw [show (Fence.wide.inRound l).round = some l from rfl, Oper.semAt_some l _ _ hd]
  unfold Oper.wp at h
  generalize (execOp a.eval o).run P w = r at h
  cases r with
  | ok x w' =>
    cases x <;> simp only [Oper.upon] at h <;> simp only [Oper.uponIn] <;>
      first
        | exact h
        | exact ⟨fun hh => (by cases hh), CallsIn.inRound l (callsIn_wide.2 (Calls.mono h (fun e w'' he => by cases e <;> first | exact he | exact (he : False).elim | (obtain ⟨_, _, hh⟩ := he; exact (hh : False).elim))))⟩
        | exact h.elim
        | exact ⟨fun hh => (by cases hh), fun c cs _ => (let ⟨v, w2, h1, h2⟩ := h c cs; ⟨v, w2, h1, stepsIn_wide.2 h2⟩)⟩
  | halt x w' => cases x <;> simp only [Oper.upon] at h <;> simp only [Oper.uponIn] <;> first | exact h.elim | exact Clean.imp _ _ _ h

theorem wpOp_in {i : Nat} {a : Act} {w : World} {K : Act → World → Prop} {n l : Nat} (hd : noDeferB ops = true) (h : wpOp P ops (Clean Q) i K a w) : wpOpIn (Fence.wide.inRound l) n P ops Q i K a w := by
  unfold wpOp at h
  unfold wpOpIn
  split
  · rename_i ho
    simpa [ho] using h
  · rename_i o ho
    simp only [ho] at h
    split
    · rename_i hw
      simp only [hw, if_true] at h
      rcases h with h | ⟨_, _, _, h⟩
      · exact op_in (noDefer_spec hd ho) h
      · exact (h : False).elim
    · rename_i hw
      simp only [hw] at h
      exact ⟨fun _ _ => trivial, h⟩

theorem wpAny_in {n l : Nat} (hd : noDeferB ops = true) : ∀ (fuel : Nat) (listed : Array Bool) (a : Act) (w : World), wpAny P md ops (Clean Q) fuel listed a w → wpAnyIn (Fence.wide.inRound l) n P md ops Q fuel listed a w
  | 0, _, _, _, h => h
  | fuel + 1, _, _, _, h => ⟨h.1, fun i hi => wpOp_in hd (wpOp_mono (fun a w h => wpAny_in hd fuel _ a w h) (h.2 i hi))⟩

/-- THE BEGINNING, IN A ROUND of a range over a function. -/
theorem wpIn_region_calm {ops' : Array Oper} {id n l : Nat} {a : Act} {w : World} (idx : List Nat) (B : List Nat) (plan : Pl) (S : World → Prop) (L : List (Nat × (Value → Prop))) (hn : ops = ops') (hm : P.follows .mixedOrders = true) (hs : Region.noSelect ops' = true)
    (hw : waitsB .any ops' B = true) (hc : calmB .any ops' B idx (Array.replicate ops'.size false) = true) (hd : distinct idx = true) (hb : planB .any ops' plan (listedBy idx (Array.replicate ops'.size false)) = true) (hz : decide (idx.length + plan.len = ops'.size) = true) (hf : noDeferB ops' = true)
    (hl : L.map (·.1) = idx) (hS : S w.drew) (h : CalmOk P ops' S (fun a => ∀ w', S w' → PlanOk P ops' (Clean Q) (fun _ => True) plan a w') L a) : (Code.region id ops true).wpIn (Fence.wide.inRound l) n P Q a w := by
  subst hn
  exact wpIn_region_any hm (wpAny_in hf _ _ _ _ (calm_any idx B plan S L hs hw hc hd hb hz hl hS h))

/-- The one value. -/
def One (v : Value) : Value → Prop := fun u => u = v

variable {E : Act → Prop}
theorem calm_end {a : Act} (h : E a) : CalmOk P ops S E [] a := ⟨h⟩
theorem calm_step {i : Nat} {V : Value → Prop} {r : List (Nat × (Value → Prop))} {a : Act} (d : Option Tmp) (hi : decide (i < ops.size) = true) (hd : (opOf ops i).dst = d) (hne : ∃ v, V v) (hc : CalmAt P ops S (opOf ops i) V a)
    (h : ∀ v, V v → CalmOk P ops S E r (a.put d v)) : CalmOk P ops S E ((i, V) :: r) a := by
  subst hd
  exact ⟨⟨_, opOf_some hi, hne, hc, fun v hv => (h v hv).out⟩⟩
/-- A pure one. -/
theorem calm_pure {i : Nat} {v : Value} {r : List (Nat × (Value → Prop))} {a : Act} (d : Option Tmp) (hi : decide (i < ops.size) = true) (hd : (opOf ops i).dst = d) (hw : Region.wanted (opOf ops i) (yielded ops a.tmps) = true) (hv : ∀ w, (execOp a.eval (opOf ops i)).run P w = .ok (.value v) w)
    (h : CalmOk P ops S E r (a.put d v)) : CalmOk P ops S E ((i, One v) :: r) a :=
  calm_step d hi hd ⟨v, rfl⟩ (.inl ⟨hw, fun w hS => by rw [hv w]; exact ⟨rfl, hS⟩⟩) (fun u hu => by cases hu; exact h)
/-- One whose guard says no. -/
theorem calm_skip {i : Nat} {r : List (Nat × (Value → Prop))} {a : Act} (d : Option Tmp) (hi : decide (i < ops.size) = true) (hd : (opOf ops i).dst = d) (hw : Region.wanted (opOf ops i) (yielded ops a.tmps) = false)
    (h : CalmOk P ops S E r (a.put d undef)) : CalmOk P ops S E ((i, One undef) :: r) a :=
  calm_step d hi hd ⟨undef, rfl⟩ (.inr ⟨hw, rfl⟩) (fun u hu => by cases hu; exact h)
/-- One whose value is read in every world of the class. -/
theorem calm_read {i : Nat} {v : Value} {r : List (Nat × (Value → Prop))} {a : Act} (d : Option Tmp) (hi : decide (i < ops.size) = true) (hd : (opOf ops i).dst = d) (hw : Region.wanted (opOf ops i) (yielded ops a.tmps) = true) (hv : ∀ w, S w → (execOp a.eval (opOf ops i)).run P w = .ok (.value v) w)
    (h : CalmOk P ops S E r (a.put d v)) : CalmOk P ops S E ((i, One v) :: r) a :=
  calm_step d hi hd ⟨v, rfl⟩ (.inl ⟨hw, fun w hS => by rw [hv w hS]; exact ⟨rfl, hS⟩⟩) (fun u hu => by cases hu; exact h)
/-- A load of many cells. -/
theorem calm_load {i : Nat} {cs : Array Value} {r : List (Nat × (Value → Prop))} {a : Act} (d : Option Tmp) (ty : TypeId) (x : Operand) (b o : Nat) (D : TypeDesc) (hi : decide (i < ops.size) = true) (hd : (opOf ops i).dst = d) (hw : Region.wanted (opOf ops i) (yielded ops a.tmps) = true)
    (ho : (opOf ops i).op = .load ty x) (hx : a.eval x = .pointer (some ⟨b, o, none⟩)) (hS : ∀ w, S w → w.rangeAt b o cs.toList) (hu : P.underlying ty = some D) (hD : D.isRow = true) (hz : (P.info? ty).map (·.size) = some cs.toList.length)
    (h : CalmOk P ops S E r (a.put d (.agg cs))) : CalmOk P ops S E ((i, One (.agg cs)) :: r) a := by
  refine calm_read d hi hd hw (fun w hS' => ?_) h
  unfold execOp
  simp only [ho, hx, Instr.loadAt, Instr.sureAddr, Sem.run_bind, Sem.run_pure, Result.andThen_ok, run_loadVar_mid w b o ty cs.toList D (hS w hS') hu hD hz, Array.toArray_toList]
/-- A call. -/
theorem calm_call {i : Nat} {V : Value → Prop} {r : List (Nat × (Value → Prop))} {a : Act} (d : Option Tmp) (f : Nat) (args : Array Value) (hne : ∃ v, V v) (hi : decide (i < ops.size) = true) (hd : (opOf ops i).dst = d) (hw : Region.wanted (opOf ops i) (yielded ops a.tmps) = true)
    (ho : ∀ w, (execOp a.eval (opOf ops i)).run P w = .ok (.enter f args) w) (hc : ∀ w, S w → Calls P f args w fun e w' => ∃ v, e = .returned v ∧ V v ∧ S w')
    (h : ∀ v, V v → CalmOk P ops S E r (a.put d v)) : CalmOk P ops S E ((i, V) :: r) a :=
  calm_step d hi hd hne (.inl ⟨hw, fun w hS => by rw [ho w]; exact hc w hS⟩) h
end
end Go.Proofs.YtcfkkceidlpdkaaDoor
