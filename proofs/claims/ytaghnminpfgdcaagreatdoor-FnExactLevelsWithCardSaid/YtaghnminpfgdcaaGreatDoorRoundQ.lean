/- A region of a round that may panic; a block in a function that is named. No condition. -/
import Derived.Test.YtaghnminpfgdcaaGreatDoorRoundB
namespace Go.Proofs.YtaghnminpfgdcaaGreatDoor
open Go Go.RowKit

section
variable {P : Program} {ops : Array Oper} {Q : Exit → Act → World → Prop} {md : Region.Mode} {S : World → Prop}

/-- Left at its end, or by a panic. -/
def Soft (Q : Exit → Act → World → Prop) : Exit → Act → World → Prop
  | .normal, a, w => Q .normal a w
  | .panic ch, a, w => Q (.panic ch) a w
  | _, _, _ => False

theorem op_soft {o : Oper} {a : Act} {w : World} {K : Act → World → Prop} {n l : Nat} (hd : ∀ c, o.op ≠ .defer c) (h : o.wp P a w K (Soft Q)) : o.wpIn (Fence.wide.inRound l) n P a w K Q := by
  refine ⟨fun _ _ => trivial, ?_⟩
  rw [show (Fence.wide.inRound l).round = some l from rfl, Oper.semAt_some l _ _ hd]
  unfold Oper.wp at h
  generalize (execOp a.eval o).run P w = r at h
  cases r with
  | ok x w' =>
    cases x <;> simp only [Oper.upon] at h <;> simp only [Oper.uponIn] <;>
      first
        | exact h
        | exact ⟨fun hh => (by cases hh), CallsIn.inRound l (callsIn_wide.2 (Calls.mono h (fun e w'' he => by cases e <;> first | exact he | exact (he : False).elim | (obtain ⟨_, _, hh⟩ := he; exact (hh : False).elim))))⟩
        | exact h.elim
        | exact ⟨fun hh => (by cases hh), fun c cs _ => (let ⟨v, w2, h1, h2⟩ := h c cs; ⟨v, w2, h1, stepsIn_wide.2 h2⟩)⟩
  | halt x w' => cases x <;> simp only [Oper.upon] at h <;> simp only [Oper.uponIn] <;> first | exact h | exact h.elim

theorem wpOp_soft {i : Nat} {a : Act} {w : World} {K : Act → World → Prop} {n l : Nat} (hd : noDeferB ops = true) (h : wpOp P ops (Soft Q) i K a w) : wpOpIn (Fence.wide.inRound l) n P ops Q i K a w := by
  unfold wpOp at h
  unfold wpOpIn
  split
  · rename_i ho
    simpa [ho] using h
  · rename_i o ho
    simp only [ho] at h
    split
    · rename_i hw
      simp only [hw, if_true] at h
      rcases h with h | ⟨_, _, _, h⟩
      · exact op_soft (noDefer_spec hd ho) h
      · exact (h : False).elim
    · rename_i hw
      simp only [hw] at h
      exact ⟨fun _ _ => trivial, h⟩

theorem wpAny_soft {n l : Nat} (hd : noDeferB ops = true) : ∀ (fuel : Nat) (listed : Array Bool) (a : Act) (w : World), wpAny P md ops (Soft Q) fuel listed a w → wpAnyIn (Fence.wide.inRound l) n P md ops Q fuel listed a w
  | 0, _, _, _, h => h
  | fuel + 1, _, _, _, h => ⟨h.1, fun i hi => wpOp_soft hd (wpOp_mono (fun a w h => wpAny_soft hd fuel _ a w h) (h.2 i hi))⟩

/-- THE BEGINNING, in a round, by a plan. -/
theorem wpIn_region_plan {ops' : Array Oper} {id n l : Nat} {a : Act} {w : World} (plan : Pl) (S : World → Prop) (hn : ops = ops') (hm : P.follows .mixedOrders = true) (hs : Region.noSelect ops' = true)
    (hb : planB .any ops' plan (Array.replicate ops'.size false) = true) (hl : decide (plan.len ≤ ops'.size) = true) (hf : noDeferB ops' = true) (hQ : ∀ c a d v w, Q (.panic c) (Act.put a d v) w → Q (.panic c) a w) (hS : S w.drew)
    (h : PlanOk P ops' (Soft Q) S plan a w.drew) : (Code.region id ops true).wpIn (Fence.wide.inRound l) n P Q a w := by
  subst hn
  exact wpIn_region_any hm (wpAny_soft hf _ _ _ _ (wpAny_of_held _ _ _ _ (wpPlan_any (Q := Soft Q) (S := S) hs (fun c a d v w h => hQ c a d v w h) plan _ _ _ _ hb (of_decide_eq_true hl) hS h.out)))

/-- An operation that comes up alone and enters a function that may panic. -/
theorem plan_callP {i : Nat} {r : Pl} {a : Act} {w : World} (d : Option Tmp) (f : Nat) (args : Array Value) (hi : decide (i < ops.size) = true) (hd : (opOf ops i).dst = d) (hw : Region.wanted (opOf ops i) (yielded ops a.tmps) = true)
    (ho : (execOp a.eval (opOf ops i)).run P w = .ok (.enter f args) w)
    (h : Calls P f args w fun e w' => (∃ v, e = .returned v ∧ S w' ∧ PlanOk P ops Q S r (a.put d v) w') ∨ (∃ ch, e = .panicked ch ∧ Q (.panic ch) a w')) : PlanOk P ops Q S (.run i r) a w := by
  subst hd
  refine ⟨?_⟩
  show wpOp P ops Q i _ a w
  unfold wpOp
  simp only [opOf_some hi, hw, if_true]
  refine .inl ?_
  unfold Oper.wp
  rw [ho]
  refine Calls.mono h fun e w' he => ?_
  rcases he with ⟨v, rfl, h4, h5⟩ | ⟨ch, rfl, hq⟩
  · exact ⟨h4, h5.out⟩
  · exact hq

theorem roundP_put {n₀ : Nat} {I : World → Prop} {X : List PanicEntry → World → Prop} {W : World} (c : List PanicEntry) (a : Act) (d : Option Tmp) (v : Value) (w : World) (h : roundP n₀ I X W (.panic c) (a.put d v) w) : roundP n₀ I X W (.panic c) a w := by
  obtain ⟨h1, h2⟩ := h
  refine ⟨?_, h2⟩
  cases d <;> exact h1

variable {f : FuncId} {a : Act} {w : World}
/-- A block that is left at its end, or by a panic. -/
theorem WpAt.block {id : Nat} {c : Code} (h : WpAt P f c (Soft Q) a w) : WpAt P f (.block id c) Q a w := by
  intro b k cs hro hb
  obtain ⟨e, a1, w1, q, r⟩ := h b (.inBlock id :: k) cs hro hb
  cases e with
  | normal => exact ⟨.normal, a1, w1, q, .head (fenced_wide _ _) stepR_block (StepsIn.trans r (.one (fenced_wide _ _) stepR_inBlock))⟩
  | panic ch => exact ⟨_, a1, w1, q, .of_steps (.one (fenced_wide _ _) stepR_block) r⟩
  | exit id' => exact q.elim
  | goto t => exact q.elim
  | ret => exact q.elim
  | outgrown => exact q.elim
end
end Go.Proofs.YtaghnminpfgdcaaGreatDoor
