/- A range over bitsIn whose body may panic. The function that holds the loop is named, since a round's frame is that function's when the panic passes. No condition. -/
import Derived.Test.YtaghnminpfgdcaaGreatDoorBase
namespace Go.Proofs.YtaghnminpfgdcaaGreatDoor
open Go Go.RowKit

section
variable {P : Program} {n : Nat}

/-- How a round ends: off its end, or by a panic that passes through it. -/
def roundEnd (P : Program) (l : Nat) (R : Ending → World → Prop) : Exit → Act → World → Prop
  | .normal, _, w => ∃ v w', (Instr.endRound l none).run P w = .ok v w' ∧ R (.returned v) w'
  | .panic ch, a, w => a.defers = [] ∧ R (.panicked ch) w
  | _, _, _ => False

theorem round_of_body {l : Nat} {f : FuncId} {fn : Func} {tmps : Array Value} {assign body : Code} {w : World} {R : Ending → World → Prop} (hf : P.funcs[f]? = some fn)
    (h : assign.wpIn (Fence.wide.inRound l) n P (Exit.then (fun a w1 => ∃ w2, (Instr.beginRound l).run P w1 = .ok () w2 ∧ body.wpIn (Fence.wide.inRound l) n P (roundEnd P l R) a w2) (fun _ _ _ => False)) { tmps := tmps, defers := [] } w) :
    RoundIn Fence.wide n P l f tmps assign body w R := by
  refine ⟨trivial, fun c cs _ => ?_⟩
  let b : Frame := { (default : Frame) with fn := f, kind := .normal, roundOf := some l }
  have e0 : Frame.round l f tmps assign body .normal = b.atR { tmps := tmps, defers := [] } [.code assign, .beginRound, .code body] := by
    simp [Frame.round, Frame.atR, b]
  have rm : (Fence.wide.inRound l).room ((c :: cs).length + 1 + n) := room_wide _
  obtain ⟨e, a1, w1, q1, r1⟩ := h b [.beginRound, .code body] (c :: cs) rfl trivial rm
  rw [← e0] at r1
  cases e with
  | normal =>
    obtain ⟨w2, hb, hbody⟩ := q1
    have s1 : Steps P (lone (b.atR a1 [.beginRound, .code body]) (c :: cs) w1) (lone (b.atR a1 [.code body]) (c :: cs) w2) := .one (stepR_beginRound rfl hb)
    have s0 : Steps P (lone (Frame.round l f tmps assign body .normal) (c :: cs) w) (lone (b.atR a1 [.beginRound, .code body]) (c :: cs) w1) := StepsIn.steps r1
    obtain ⟨e2, a2, w3, q2, r2⟩ := hbody b [] (c :: cs) rfl trivial rm
    cases e2 with
    | normal =>
      obtain ⟨v, w4, he, hR⟩ := q2
      have s2 : Steps P (lone (b.atR a1 [.code body]) (c :: cs) w2) (lone (b.atR a2 []) (c :: cs) w3) := StepsIn.steps r2
      exact ⟨.returned v, w4, hR, comesIn_wide.2 (show Steps P _ _ from ((s0.trans s1).trans s2).trans (.one (stepR_round_end rfl rfl he)))⟩
    | panic ch =>
      obtain ⟨hd, hR⟩ := q2
      obtain ⟨todo, hs⟩ := r2
      have hl : Frame.leaving P { b.atR a2 todo with mode := .panicking ch } w3 (.panicked ch) := ⟨rfl, hd, fn, hf⟩
      exact ⟨.panicked ch, w3, hR, comesIn_wide.2 (show Steps P _ _ from ((s0.trans s1).trans (StepsIn.steps hs)).trans (.one (step_leave_panicked hl)))⟩
    | exit id => exact q2.elim
    | goto t => exact q2.elim
    | ret => exact q2.elim
    | outgrown => exact q2.elim
  | exit id => exact q1.elim
  | goto t => exact q1.elim
  | ret => exact q1.elim
  | panic ch => exact q1.elim
  | outgrown => exact q1.elim

/-- What a piece of code does in an activation of a function that is named. -/
def WpAt (P : Program) (f : FuncId) (c : Code) (Q : Exit → Act → World → Prop) (a : Act) (w : World) : Prop :=
  ∀ (b : Frame) (k : List Item) (cs : List Frame), b.roundOf = none → b.fn = f →
    ∃ e a' w', Q e a' w' ∧ ArrivesIn (Machine.fenced P Fence.wide) P (lone (b.atR a (.code c :: k)) cs w) b k cs e a' w'

variable {f : FuncId} {Q : Exit → Act → World → Prop} {a : Act} {w : World}

theorem WpAt.of_in {c : Code} (h : c.wpIn Fence.wide n P Q a w) : WpAt P f c Q a w := fun b k cs hro _ => h b k cs hro trivial (room_wide _)
theorem WpAt.of_wp {c : Code} (h : c.wp P Q a w) : WpAt P f c Q a w := WpAt.of_in (n := 0) (wpIn_wide.2 h)

theorem WpAt.seq {x y : Code} (h : WpAt P f x (Exit.then (WpAt P f y Q) Q) a w) : WpAt P f (.seq x y) Q a w := by
  intro b k cs hro hb
  have st : StepsIn (Machine.fenced P Fence.wide) P (lone (b.atR a (.code (.seq x y) :: k)) cs w) (lone (b.atR a (.code x :: .code y :: k)) cs w) := .one (fenced_wide _ _) stepR_seq
  obtain ⟨e, a1, w1, q, r⟩ := h b (.code y :: k) cs hro hb
  cases e with
  | normal =>
    obtain ⟨e2, a2, w2, q2, r2⟩ := q b k cs hro hb
    exact ⟨e2, a2, w2, q2, .of_steps (st.trans r) r2⟩
  | exit id => exact ⟨_, a1, w1, q, .of_steps st (.pass (x := .code y) rfl (fun _ _ => .inl (by simp)) r)⟩
  | goto t => exact ⟨_, a1, w1, q, .of_steps st (.pass (x := .code y) rfl (fun _ _ => .inl (by simp)) r)⟩
  | ret => exact ⟨_, a1, w1, q, .of_steps st (.pass (x := .code y) rfl (fun _ _ => .inl (by simp)) r)⟩
  | panic ch => exact ⟨_, a1, w1, q, .of_steps st (.pass (x := .code y) rfl (fun _ _ => .inl (by simp)) r)⟩
  | outgrown => exact ⟨_, a1, w1, q, .of_steps st (.pass (x := .code y) rfl (fun _ _ => .inl (by simp)) r)⟩

/-- A function's contract from its body, marks and all. -/
theorem calls_of_wpAt {fn : Func} {c : Code} {args : Array Value} {R : Ending → World → Prop} (hf : P.funcs[f]? = some fn) (hb : fn.body = some c)
    (h : WpAt P f c (bodyPostM Fence.wide n P fn R) { tmps := args ++ Array.replicate (fn.ntmps - args.size) undef, defers := [] } w) : CallsIn Fence.wide n P f args w R := by
  refine ⟨trivial, fun cs hr => ?_⟩
  let b : Frame := { (default : Frame) with fn := f, kind := .normal, roundOf := none }
  have e0 : Frame.enter P f args .normal = b.atR { tmps := args ++ Array.replicate (fn.ntmps - args.size) undef, defers := [] } [.code c] := by
    simp [Frame.enter, Frame.atR, hf, hb, b]
  obtain ⟨e, a', w', q, r⟩ := h b [] cs rfl rfl
  rw [← e0] at r
  have out : ∀ (u : FrameMode) (todo : List Item), StepsIn (Machine.fenced P Fence.wide) P (lone (Frame.enter P f args .normal) cs w) (lone { b.atR a' todo with mode := u } cs w') → LeavesInM Fence.wide n P fn a'.tmps R a'.defers u w' →
      ∃ e w' fr, R e w' ∧ ComesIn (Machine.fenced P Fence.wide) P (lone (Frame.enter P f args .normal) cs w) (lone fr cs w') e ∧ fr.fn = f ∧ fr.leaving P w' e := fun u todo s hl => by
    obtain ⟨e', w'', fr, hR, hs, hfn, hv⟩ := leaves_stepsInM a'.defers u w' { b.atR a' todo with mode := u } cs rfl rfl rfl hf rfl trivial hr hl
    exact ⟨e', w'', fr, hR, ComesIn.of_steps s hs, hfn, hv⟩
  cases e with
  | normal => exact out .returning [] (r.trans (.one (fenced_wide _ _) (stepR_end rfl))) q
  | ret => obtain ⟨todo, s⟩ := r.1 rfl; exact out _ todo s q
  | panic ch => obtain ⟨todo, s⟩ := r; exact out _ todo s q
  | exit id => exact q.elim
  | goto t => exact q.elim
  | outgrown => exact ⟨.outgrown, w', b, q, r.resolve_left (by simp [b]), rfl, trivial⟩

/-- The statement, where no round jumps: its function returns, or passes a panic up. -/
theorem WpAt.range {g : Operand} {ps : Array Tmp} {assign body : Code} {gf : Nat} {lb : Array Value} (hg : a.eval g = .func (.func gf) #[] lb) (eg : ∀ args w, (callFunc gf args).run P w = .ok (.enter gf args) w)
    (h : ∃ W1, (w.alloc (.deferred (some []))).alloc (.loop { state := .ready, pending := none, fn := f, tmps := a.tmps, params := ps, assign, body, defers := w.heap.size }) = W1 ∧
      CallsIn Fence.wide n P gf (#[.func (.yield (w.heap.size + 1)) #[] #[]] ++ lb) W1 fun e W3 =>
        (∃ v W4, e = .returned v ∧ (Instr.endLoop (w.heap.size + 1)).run P W3 = .ok none W4 ∧ Q .normal { a with defers := { target := .collected w.heap.size, args := #[] } :: a.defers } W4) ∨
        (∃ ch, e = .panicked ch ∧ Q (.panic ch) { a with defers := { target := .collected w.heap.size, args := #[] } :: a.defers } W3)) :
    WpAt P f (.rangeFunc g ps assign body) Q a w := by
  intro b k cs hro hb
  obtain ⟨W1, hW1, hcall⟩ := h
  have hen := run_enterLoop_outer (P := P) (w := w) b.fn a.tmps ps assign body
  rw [hb, hW1, ← hro, ← hb] at hen
  have hin := stepR_rangeFunc (P := P) (b := b) (a := a) (k := k) (cs := cs) (w := w) (w₁ := W1) (w₁' := W1) (w₂ := W1) (g := g) (l := w.heap.size + 1) (d := { target := .fn (.func gf) lb, args := #[.func (.yield (w.heap.size + 1)) #[] #[]] }) (f := gf)
    (args := #[.func (.yield (w.heap.size + 1)) #[] #[]] ++ lb) hen (by simp only [resolve, hg]; simp [go_sem]) (by simp [invoke, go_sem, eg])
  obtain ⟨e, W3, fr, hR, hs, hfn, hv⟩ := hcall.2 (b.atR { a with defers := [{ target := .collected w.heap.size, args := #[] }] ++ a.defers } (.inRangeFunc (w.heap.size + 1) :: k) :: cs) (room_wide _)
  rcases hR with ⟨v, W4, rfl, hel, hq⟩ | ⟨ch, rfl, hq⟩
  · refine ⟨.normal, _, W4, hq, stepsIn_wide.2 ((Steps.one hin).trans ((StepsIn.steps hs).trans ((Steps.one (step_leave_returned hv)).trans ?_)))⟩
    rw [finish_atR_inRangeFunc]
    exact .one (by simpa using stepR_endRangeFunc (k := k) hel)
  · refine ⟨.panic ch, _, W3, hq, .inRangeFunc (w.heap.size + 1) :: k, stepsIn_wide.2 ((Steps.one hin).trans ((StepsIn.steps hs).trans (.one ?_)))⟩
    rw [step_leave_panicked hv]
    rw [← Frame.raise_atR]
    rfl
end
end Go.Proofs.YtaghnminpfgdcaaGreatDoor
