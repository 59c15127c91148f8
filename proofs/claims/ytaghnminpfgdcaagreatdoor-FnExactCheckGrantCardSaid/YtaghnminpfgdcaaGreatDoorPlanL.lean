/- A region that draws its order and whose last store writes over what has been loaded. No condition. -/
import Derived.Test.YtaghnminpfgdcaaGreatDoorHelp
namespace Go.Proofs.YtaghnminpfgdcaaGreatDoor
open Go Go.RowKit
set_option linter.unusedSimpArgs false
set_option linter.unusedVariables false

section
variable {P : Program} {ops : Array Oper} {Q : Exit → Act → World → Prop} {md : Region.Mode} {S : World → Prop}

/-- Until b has come up S holds. -/
def Till (S : World → Prop) (b : Nat) (listed : Array Bool) (w : World) : Prop := listed.getD b false = true ∨ S w
/-- Whatever order is picked from here on; S holds behind every operation until b has come up. -/
def wpAnyL (P : Program) (md : Region.Mode) (ops : Array Oper) (Q : Exit → Act → World → Prop) (S : World → Prop) (b : Nat) : Nat → Array Bool → Act → World → Prop
  | 0, listed, a, w => Region.ready md ops listed = [] ∧ Q .normal a w
  | n + 1, listed, a, w => (Region.ready md ops listed = [] → Q .normal a w) ∧ ∀ i ∈ Region.ready md ops listed, wpOp P ops Q i (fun a' w' => Till S b (listed.setIfInBounds i true) w' ∧ wpAnyL P md ops Q S b n (listed.setIfInBounds i true) a' w') a w
theorem wpAny_of_till {b : Nat} : ∀ (n : Nat) (listed : Array Bool) (a : Act) (w : World), wpAnyL P md ops Q S b n listed a w → wpAny P md ops Q n listed a w
  | 0, _, _, _, h => h
  | n + 1, _, _, _, h => ⟨h.1, fun i hi => wpOp_mono (fun a' w' h' => wpAny_of_till n _ a' w' h'.2) (h.2 i hi)⟩
/-- In which worlds an operation may come up. -/
def While (md : Region.Mode) (ops : Array Oper) (S : World → Prop) (b i : Nat) (w : World) : Prop := ∃ listed : Array Bool, Closed md ops listed ∧ listed.getD i true = false ∧ Till S b listed w
theorem till_less {b i : Nat} {listed : Array Bool} {w : World} (hib : i ≠ b) (h : Till S b (listed.setIfInBounds i true) w) : Till S b listed w := by
  rcases h with h | h
  · refine .inl ?_
    simpa [Array.getD_eq_getD_getElem?, Array.getElem?_setIfInBounds, hib] using h
  · exact .inr h
/-- Who may come up now may be taken first. -/
theorem wpAnyL_first {b i : Nat} {oi : Oper} {v : Value} (hib : i ≠ b) (hi : ops[i]? = some oi) (hsel : ∀ (j : Nat) (o : Oper) cs c, ops[j]? = some o → o.op ≠ .select cs c)
    (hQ : ∀ c a w, Q (.panic c) (a.put oi.dst v) w → Q (.panic c) a w) :
    ∀ (n : Nat) (listed : Array Bool) (a : Act) (w : World), Closed md ops listed →
      (∀ j oj, ops[j]? = some oj → j ≠ i → listed.getD j true = false → (∀ e ∈ oj.after, Region.binds md e = true → e.on ≠ i) → oi.apart ops oj = true) →
      i ∈ Region.ready md ops listed → YieldsIf P ops (While md ops S b i) oi v a → Till S b listed w →
      wpAnyL P md ops Q S b n (listed.setIfInBounds i true) (a.put oi.dst v) w → wpAnyL P md ops Q S b (n + 1) listed a w := by
  intro n
  induction n with
  | zero =>
    intro listed a w hcl _ hr hy hS H
    refine ⟨fun h => (by rw [h] at hr; cases hr), fun j hj => ?_⟩
    by_cases hji : j = i
    · subst hji
      refine hy.wpOp hi ⟨listed, hcl, (mem_ready.1 hr).1, hS⟩ ⟨?_, H⟩
      exact hS.imp getD_set_true id
    · have := ready_mono hj hji
      rw [H.1] at this
      cases this
  | succ n ih =>
    intro listed a w hcl hfree hr hy hS H
    refine ⟨fun h => (by rw [h] at hr; cases hr), fun j hj => ?_⟩
    by_cases hji : j = i
    · subst hji
      refine hy.wpOp hi ⟨listed, hcl, (mem_ready.1 hr).1, hS⟩ ⟨?_, H⟩
      exact hS.imp getD_set_true id
    · have h1 := H.2 j (ready_mono hj hji)
      obtain ⟨hjun, oj, hoj, hall⟩ := mem_ready.1 hj
      have hnot : ∀ e ∈ oj.after, Region.binds md e = true → e.on ≠ i := fun e he hb heq => by
        have h1 := hall e he hb
        have h0 := (mem_ready.1 hr).1
        rw [heq] at h1
        rcases Nat.lt_or_ge i listed.size with h' | h'
        · simp [h'] at h0 h1; rw [h0] at h1; cases h1
        · simp [Array.getElem?_eq_none h'] at h1
      have h2 := wpOp_putIf hoj (hfree j oj hoj hji hjun hnot) (fun cs c => hsel i oi cs c hi) (fun cs c => hsel j oj cs c hoj) hQ hy h1
      refine wpOp_mono (fun a' w' h3 => ?_) h2
      have hcomm : (listed.setIfInBounds i true).setIfInBounds j true = (listed.setIfInBounds j true).setIfInBounds i true := Array.setIfInBounds_comm _ _ (Ne.symm hji)
      rw [hcomm] at h3
      have hT := till_less hib h3.2.1
      refine ⟨hT, ih (listed.setIfInBounds j true) a' w' (closed_next hcl hj) (fun k ok hk hki hun hno => hfree k ok hk hki ?_ hno) (ready_mono hr (Ne.symm hji)) h3.1 hT h3.2.2⟩
      by_cases hjk : j = k
      · subst hjk; exact hjun
      · rw [getD_set_ne true hjk] at hun; exact hun

/-- Does b wait for i? -/
def waitsFor (md : Region.Mode) (ops : Array Oper) (b i : Nat) : Bool := (markDown md ops ops.size ((Array.replicate ops.size false).setIfInBounds b true)).getD i false
theorem while_waits {b i : Nat} {w : World} (hib : i ≠ b) (hw : waitsFor md ops b i = true) (h : While md ops S b i w) : S w := by
  obtain ⟨l, hcl, hun, h | h⟩ := h
  · have := mark_good (md := md) (ops := ops) (Good := fun j => j = b ∨ l.getD j false = true) (fun j oj hj hg e he hbd => by
      rcases hg with rfl | hg
      · exact .inr (hcl j oj hj h e he hbd)
      · exact .inr (hcl j oj hj hg e he hbd)) ops.size ((Array.replicate ops.size false).setIfInBounds b true) (fun j hj => by
        by_cases e : j = b
        · exact .inl e
        · exfalso
          rw [Array.getD_eq_getD_getElem?, Array.getElem?_setIfInBounds, if_neg (fun h => e h.symm)] at hj
          rcases Nat.lt_or_ge j ops.size with h' | h' <;> simp [h'] at hj) i hw
    rcases this with e | e
    · exact absurd e hib
    · rcases Nat.lt_or_ge i l.size with h' | h'
      · simp [h'] at hun e; rw [hun] at e; cases e
      · simp [Array.getElem?_eq_none h'] at e
  · exact h

/-- What a plan owes, when S holds until b has come up. -/
def wpPlanL (P : Program) (md : Region.Mode) (ops : Array Oper) (Q : Exit → Act → World → Prop) (S : World → Prop) (b : Nat) : Pl → Act → World → Prop
  | .fin, a, w => Q .normal a w
  | .take i r, a, w => i ≠ b ∧ ∃ oi v, ops[i]? = some oi ∧ (YieldsIf P ops (fun _ => True) oi v a ∨ waitsFor md ops b i = true ∧ YieldsIf P ops S oi v a) ∧ wpPlanL P md ops Q S b r (a.put oi.dst v) w
  | .run i r, a, w => wpOp P ops Q i (fun a' w' => (i = b ∨ S w') ∧ wpPlanL P md ops Q S b r a' w') a w
  | .two _ _ _ _, _, _ => False
structure PlanL (P : Program) (md : Region.Mode) (ops : Array Oper) (Q : Exit → Act → World → Prop) (S : World → Prop) (b : Nat) (plan : Pl) (a : Act) (w : World) : Prop where
  out : wpPlanL P md ops Q S b plan a w
theorem yieldsIf_less {S T : World → Prop} {o : Oper} {v : Value} {a : Act} (h : YieldsIf P ops S o v a) (hST : ∀ w, T w → S w) : YieldsIf P ops T o v a :=
  h.imp (fun ⟨h1, h2⟩ => ⟨h1, fun w hw => h2 w (hST w hw)⟩) id
theorem wpPlanL_any {b : Nat} (hbs : b < ops.size) (hs : Region.noSelect ops = true) (hQ : ∀ c a d v w, Q (.panic c) (Act.put a d v) w → Q (.panic c) a w) : ∀ (plan : Pl) (n : Nat) (listed : Array Bool) (a : Act) (w : World), listed.size = ops.size → Closed md ops listed →
    planB md ops plan listed = true → plan.len ≤ n → Till S b listed w → wpPlanL P md ops Q S b plan a w → wpAnyL P md ops Q S b n listed a w
  | .fin, n, listed, a, w, hz, hcl, hb, _, _, h => by
    have hr : Region.ready md ops listed = [] := by simpa [planB] using hb
    cases n with
    | zero => exact ⟨hr, h⟩
    | succ n => exact ⟨fun _ => h, by rw [hr]; simp⟩
  | .take i r, n, listed, a, w, hz, hcl, hb, hl, hS, h => by
    obtain ⟨hib, oi, v, hi, hy, h⟩ := h
    simp only [planB, Bool.and_eq_true] at hb
    obtain ⟨⟨h1, h2⟩, h3⟩ := hb
    have hr : i ∈ Region.ready md ops listed := by simpa using h2
    match n, hl with
    | n + 1, hl =>
      refine wpAnyL_first hib hi (Region.noSelect_spec hs) (fun c a w => hQ c a _ _ w) n listed a w hcl (Region.free_spec hi h1) hr ?_ hS
        (wpPlanL_any hbs hs hQ r n _ _ _ (by simpa using hz) (closed_next hcl hr) h3 (by simpa [Pl.len] using hl) (hS.imp getD_set_true id) h)
      rcases hy with hy | ⟨hw, hy⟩
      · exact yieldsIf_less hy fun _ _ => trivial
      · exact yieldsIf_less hy fun _ hW => while_waits hib hw hW
  | .run i r, n, listed, a, w, hz, hcl, hb, hl, hS, h => by
    simp only [planB, Bool.and_eq_true, beq_iff_eq] at hb
    obtain ⟨h1, h3⟩ := hb
    have hr : i ∈ Region.ready md ops listed := by rw [h1]; simp
    match n, hl with
    | n + 1, hl =>
      refine ⟨fun h0 => (by rw [h0] at h1; cases h1), fun j hj => ?_⟩
      rw [h1] at hj
      obtain rfl : j = i := by simpa using hj
      refine wpOp_mono (fun a' w' h' => ?_) h
      have hT : Till S b (listed.setIfInBounds j true) w' := h'.1.imp (fun e => by subst e; simp [Array.getD_eq_getD_getElem?, Array.getElem?_setIfInBounds, hz, hbs]) id
      exact ⟨hT, wpPlanL_any hbs hs hQ r n _ _ _ (by simpa using hz) (closed_next hcl hr) h3 (by simpa [Pl.len] using hl) hT h'.2⟩
  | .two _ _ _ _, _, _, _, _, _, _, _, _, _, h => h.elim

/-- THE BEGINNING, in a round. -/
theorem wpIn_region_planL {ops' : Array Oper} {id n l b : Nat} {a : Act} {w : World} (plan : Pl) (S : World → Prop) (hn : ops = ops') (hm : P.follows .mixedOrders = true) (hs : Region.noSelect ops' = true)
    (hb : planB .any ops' plan (Array.replicate ops'.size false) = true) (hl : decide (plan.len ≤ ops'.size) = true) (hf : noDeferB ops' = true) (hbs : decide (b < ops'.size) = true) (hS : S w.drew)
    (h : PlanL P .any ops' (Clean Q) S b plan a w.drew) : (Code.region id ops true).wpIn (Fence.wide.inRound l) n P Q a w := by
  subst hn
  exact wpIn_region_any hm (wpAny_in hf _ _ _ _ (wpAny_of_till _ _ _ _ (wpPlanL_any (Q := Clean Q) (S := S) (of_decide_eq_true hbs) hs (fun _ _ _ _ _ h => h) plan _ _ _ _ (by simp) (closed_none _ _ _) hb (of_decide_eq_true hl) (.inr hS) h.out)))

theorem planL_end {b : Nat} {a : Act} {w : World} (h : Q .normal a w) : PlanL P md ops Q S b .fin a w := ⟨h⟩
theorem planL_pure {b i : Nat} {r : Pl} {a : Act} {w : World} (d : Option Tmp) (v : Value) (hib : i ≠ b) (hi : decide (i < ops.size) = true) (hd : (opOf ops i).dst = d) (hw : Region.wanted (opOf ops i) (yielded ops a.tmps) = true) (hv : ∀ w, (execOp a.eval (opOf ops i)).run P w = .ok (.value v) w)
    (h : PlanL P md ops Q S b r (a.put d v) w) : PlanL P md ops Q S b (.take i r) a w := by
  subst hd
  exact ⟨hib, _, v, opOf_some hi, .inl (.inl ⟨hw, fun w _ => hv w⟩), h.out⟩
theorem planL_read {b i : Nat} {r : Pl} {a : Act} {w : World} (d : Option Tmp) (v : Value) (hib : i ≠ b) (hwt : waitsFor md ops b i = true) (hi : decide (i < ops.size) = true) (hd : (opOf ops i).dst = d) (hw : Region.wanted (opOf ops i) (yielded ops a.tmps) = true) (hv : ∀ w, S w → (execOp a.eval (opOf ops i)).run P w = .ok (.value v) w)
    (h : PlanL P md ops Q S b r (a.put d v) w) : PlanL P md ops Q S b (.take i r) a w := by
  subst hd
  exact ⟨hib, _, v, opOf_some hi, .inr ⟨hwt, .inl ⟨hw, hv⟩⟩, h.out⟩
theorem planL_call {b i : Nat} {r : Pl} {a : Act} {w : World} (d : Option Tmp) (f : Nat) (args : Array Value) (hi : decide (i < ops.size) = true) (hd : (opOf ops i).dst = d) (hw : Region.wanted (opOf ops i) (yielded ops a.tmps) = true)
    (ho : (execOp a.eval (opOf ops i)).run P w = .ok (.enter f args) w)
    (h : Calls P f args w fun e w' => ∃ v, e = .returned v ∧ S w' ∧ PlanL P md ops Q S b r (a.put d v) w') : PlanL P md ops Q S b (.run i r) a w := by
  subst hd
  refine ⟨?_⟩
  show wpOp P ops Q i _ a w
  unfold wpOp
  simp only [opOf_some hi, hw, if_true]
  refine .inl ?_
  unfold Oper.wp
  rw [ho]
  refine Calls.mono h fun e w' he => ?_
  obtain ⟨v, rfl, h4, h5⟩ := he
  exact ⟨.inr h4, h5.out⟩
/-- The last store. -/
theorem planL_last {b : Nat} {r : Pl} {a : Act} {w : World} (d : Option Tmp) (v : Value) (w' : World) (hi : decide (b < ops.size) = true) (hd : (opOf ops b).dst = d) (hw : Region.wanted (opOf ops b) (yielded ops a.tmps) = true)
    (ho : (execOp a.eval (opOf ops b)).run P w = .ok (.value v) w' ∨ ((execOp a.eval (opOf ops b)).run P w = .ok .skip w' ∧ v = undef)) (h : PlanL P md ops Q S b r (a.put d v) w') : PlanL P md ops Q S b (.run b r) a w := by
  subst hd
  refine ⟨?_⟩
  show wpOp P ops Q b _ a w
  unfold wpOp
  simp only [opOf_some hi, hw, if_true]
  refine .inl ?_
  unfold Oper.wp
  rcases ho with ho | ⟨ho, rfl⟩
  · rw [ho]; exact ⟨.inl trivial, h.out⟩
  · rw [ho]; exact ⟨.inl trivial, h.out⟩
/-- THE BEGINNING, outside a round. -/
theorem wp_region_planL {ops' : Array Oper} {id b : Nat} {a : Act} {w : World} (plan : Pl) (S : World → Prop) (hn : ops = ops') (hm : P.follows .mixedOrders = true) (hs : Region.noSelect ops' = true)
    (hb : planB .any ops' plan (Array.replicate ops'.size false) = true) (hl : decide (plan.len ≤ ops'.size) = true) (hbs : decide (b < ops'.size) = true) (hS : S w.drew)
    (h : PlanL P .any ops' (NoPanic Q) S b plan a w.drew) : (Code.region id ops true).wp P Q a w := by
  subst hn
  exact wp_region_noPanic (wp_region_any hm (wpAny_of_till _ _ _ _ (wpPlanL_any (Q := NoPanic Q) (S := S) (of_decide_eq_true hbs) hs (fun _ _ _ _ _ h => h) plan _ _ _ _ (by simp) (closed_none _ _ _) hb (of_decide_eq_true hl) (.inr hS) h.out)))
/-- A load of many cells. -/
theorem planL_load {b i : Nat} {r : Pl} {a : Act} {w : World} (d : Option Tmp) (ty : TypeId) (x : Operand) (c o : Nat) (cs : List Value) (D : TypeDesc) (hib : i ≠ b) (hwt : waitsFor md ops b i = true) (hi : decide (i < ops.size) = true) (hd : (opOf ops i).dst = d) (hw : Region.wanted (opOf ops i) (yielded ops a.tmps) = true)
    (ho : (opOf ops i).op = .load ty x) (hx : a.eval x = .pointer (some ⟨c, o, none⟩)) (hS : ∀ w, S w → w.rangeAt c o cs) (hu : P.underlying ty = some D) (hD : D.isRow = true) (hz : (P.info? ty).map (·.size) = some cs.length)
    (h : PlanL P md ops Q S b r (a.put d (.agg cs.toArray)) w) : PlanL P md ops Q S b (.take i r) a w := by
  subst hd
  exact ⟨hib, _, _, opOf_some hi, .inr ⟨hwt, yieldsIf_load_mid hw ty x ho c o hx cs D hS hu hD hz⟩, h.out⟩
end
end Go.Proofs.YtaghnminpfgdcaaGreatDoor
