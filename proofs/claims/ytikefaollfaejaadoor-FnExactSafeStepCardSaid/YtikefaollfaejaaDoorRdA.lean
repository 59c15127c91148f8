/- A range over bitsIn whose body may panic. The function that holds the loop is named, since a round's frame is that function's when the panic passes. No condition. · A range over bitsIn whose body may panic: the iterator, and the statement. Condition: the table of math/bits is laid. · A region of a round that may panic; a block in a function that is named. No condition. -/
import Derived.Test.YtikefaollfaejaaDoorBase
namespace Go.Proofs.YtikefaollfaejaaDoor

section
open Go Go.RowKit

section
variable {P : Program} {n : Nat}

/-- How a round ends: off its end, or by a panic that passes through it. -/
def roundEnd (P : Program) (l : Nat) (R : Ending → World → Prop) : Exit → Act → World → Prop
  | .normal, _, w => ∃ v w', (Instr.endRound l none).run P w = .ok v w' ∧ R (.returned v) w'
  | .panic ch, a, w => a.defers = [] ∧ R (.panicked ch) w
  | _, _, _ => False

theorem round_of_body {l : Nat} {f : FuncId} {fn : Func} {tmps : Array Value} {assign body : Code} {w : World} {R : Ending → World → Prop} (hf : P.funcs[f]? = some fn)
    (h : assign.wpIn (Fence.wide.inRound l) n P (Exit.then (fun a w1 => ∃ w2, (Instr.beginRound l).run P w1 = .ok () w2 ∧ body.wpIn (Fence.wide.inRound l) n P (roundEnd P l R) a w2) (fun _ _ _ => False)) { tmps := tmps, defers := [] } w) :
    RoundIn Fence.wide n P l f tmps assign body w R := by
  refine ⟨trivial, fun c cs _ => ?_⟩
  let b : Frame := { (default : Frame) with fn := f, kind := .normal, roundOf := some l }
  have e0 : Frame.round l f tmps assign body .normal = b.atR { tmps := tmps, defers := [] } [.code assign, .beginRound, .code body] := by
    simp [Frame.round, Frame.atR, b]
  have rm : (Fence.wide.inRound l).room ((c :: cs).length + 1 + n) := room_wide _
  obtain ⟨e, a1, w1, q1, r1⟩ := h b [.beginRound, .code body] (c :: cs) rfl trivial rm
  rw [← e0] at r1
  cases e with
  | normal =>
    obtain ⟨w2, hb, hbody⟩ := q1
    have s1 : Steps P (lone (b.atR a1 [.beginRound, .code body]) (c :: cs) w1) (lone (b.atR a1 [.code body]) (c :: cs) w2) := .one (stepR_beginRound rfl hb)
    have s0 : Steps P (lone (Frame.round l f tmps assign body .normal) (c :: cs) w) (lone (b.atR a1 [.beginRound, .code body]) (c :: cs) w1) := StepsIn.steps r1
    obtain ⟨e2, a2, w3, q2, r2⟩ := hbody b [] (c :: cs) rfl trivial rm
    cases e2 with
    | normal =>
      obtain ⟨v, w4, he, hR⟩ := q2
      have s2 : Steps P (lone (b.atR a1 [.code body]) (c :: cs) w2) (lone (b.atR a2 []) (c :: cs) w3) := StepsIn.steps r2
      exact ⟨.returned v, w4, hR, comesIn_wide.2 (show Steps P _ _ from ((s0.trans s1).trans s2).trans (.one (stepR_round_end rfl rfl he)))⟩
    | panic ch =>
      obtain ⟨hd, hR⟩ := q2
      obtain ⟨todo, hs⟩ := r2
      have hl : Frame.leaving P { b.atR a2 todo with mode := .panicking ch } w3 (.panicked ch) := ⟨rfl, hd, fn, hf⟩
      exact ⟨.panicked ch, w3, hR, comesIn_wide.2 (show Steps P _ _ from ((s0.trans s1).trans (StepsIn.steps hs)).trans (.one (step_leave_panicked hl)))⟩
    | exit id => exact q2.elim
    | goto t => exact q2.elim
    | ret => exact q2.elim
    | outgrown => exact q2.elim
  | exit id => exact q1.elim
  | goto t => exact q1.elim
  | ret => exact q1.elim
  | panic ch => exact q1.elim
  | outgrown => exact q1.elim

/-- What a piece of code does in an activation of a function that is named. -/
def WpAt (P : Program) (f : FuncId) (c : Code) (Q : Exit → Act → World → Prop) (a : Act) (w : World) : Prop :=
  ∀ (b : Frame) (k : List Item) (cs : List Frame), b.roundOf = none → b.fn = f →
    ∃ e a' w', Q e a' w' ∧ ArrivesIn (Machine.fenced P Fence.wide) P (lone (b.atR a (.code c :: k)) cs w) b k cs e a' w'

variable {f : FuncId} {Q : Exit → Act → World → Prop} {a : Act} {w : World}

theorem WpAt.of_in {c : Code} (h : c.wpIn Fence.wide n P Q a w) : WpAt P f c Q a w := fun b k cs hro _ => h b k cs hro trivial (room_wide _)
theorem WpAt.of_wp {c : Code} (h : c.wp P Q a w) : WpAt P f c Q a w := WpAt.of_in (n := 0) (wpIn_wide.2 h)

theorem WpAt.seq {x y : Code} (h : WpAt P f x (Exit.then (WpAt P f y Q) Q) a w) : WpAt P f (.seq x y) Q a w := by
  intro b k cs hro hb
  have st : StepsIn (Machine.fenced P Fence.wide) P (lone (b.atR a (.code (.seq x y) :: k)) cs w) (lone (b.atR a (.code x :: .code y :: k)) cs w) := .one (fenced_wide _ _) stepR_seq
  obtain ⟨e, a1, w1, q, r⟩ := h b (.code y :: k) cs hro hb
  cases e with
  | normal =>
    obtain ⟨e2, a2, w2, q2, r2⟩ := q b k cs hro hb
    exact ⟨e2, a2, w2, q2, .of_steps (st.trans r) r2⟩
  | exit id => exact ⟨_, a1, w1, q, .of_steps st (.pass (x := .code y) rfl (fun _ _ => .inl (by simp)) r)⟩
  | goto t => exact ⟨_, a1, w1, q, .of_steps st (.pass (x := .code y) rfl (fun _ _ => .inl (by simp)) r)⟩
  | ret => exact ⟨_, a1, w1, q, .of_steps st (.pass (x := .code y) rfl (fun _ _ => .inl (by simp)) r)⟩
  | panic ch => exact ⟨_, a1, w1, q, .of_steps st (.pass (x := .code y) rfl (fun _ _ => .inl (by simp)) r)⟩
  | outgrown => exact ⟨_, a1, w1, q, .of_steps st (.pass (x := .code y) rfl (fun _ _ => .inl (by simp)) r)⟩

/-- A function's contract from its body, marks and all. -/
theorem calls_of_wpAt {fn : Func} {c : Code} {args : Array Value} {R : Ending → World → Prop} (hf : P.funcs[f]? = some fn) (hb : fn.body = some c)
    (h : WpAt P f c (bodyPostM Fence.wide n P fn R) { tmps := args ++ Array.replicate (fn.ntmps - args.size) undef, defers := [] } w) : CallsIn Fence.wide n P f args w R := by
  refine ⟨trivial, fun cs hr => ?_⟩
  let b : Frame := { (default : Frame) with fn := f, kind := .normal, roundOf := none }
  have e0 : Frame.enter P f args .normal = b.atR { tmps := args ++ Array.replicate (fn.ntmps - args.size) undef, defers := [] } [.code c] := by
    simp [Frame.enter, Frame.atR, hf, hb, b]
  obtain ⟨e, a', w', q, r⟩ := h b [] cs rfl rfl
  rw [← e0] at r
  have out : ∀ (u : FrameMode) (todo : List Item), StepsIn (Machine.fenced P Fence.wide) P (lone (Frame.enter P f args .normal) cs w) (lone { b.atR a' todo with mode := u } cs w') → LeavesInM Fence.wide n P fn a'.tmps R a'.defers u w' →
      ∃ e w' fr, R e w' ∧ ComesIn (Machine.fenced P Fence.wide) P (lone (Frame.enter P f args .normal) cs w) (lone fr cs w') e ∧ fr.fn = f ∧ fr.leaving P w' e := fun u todo s hl => by
    obtain ⟨e', w'', fr, hR, hs, hfn, hv⟩ := leaves_stepsInM a'.defers u w' { b.atR a' todo with mode := u } cs rfl rfl rfl hf rfl trivial hr hl
    exact ⟨e', w'', fr, hR, ComesIn.of_steps s hs, hfn, hv⟩
  cases e with
  | normal => exact out .returning [] (r.trans (.one (fenced_wide _ _) (stepR_end rfl))) q
  | ret => obtain ⟨todo, s⟩ := r.1 rfl; exact out _ todo s q
  | panic ch => obtain ⟨todo, s⟩ := r; exact out _ todo s q
  | exit id => exact q.elim
  | goto t => exact q.elim
  | outgrown => exact ⟨.outgrown, w', b, q, r.resolve_left (by simp [b]), rfl, trivial⟩

/-- The statement, where no round jumps: its function returns, or passes a panic up. -/
theorem WpAt.range {g : Operand} {ps : Array Tmp} {assign body : Code} {gf : Nat} {lb : Array Value} (hg : a.eval g = .func (.func gf) #[] lb) (eg : ∀ args w, (callFunc gf args).run P w = .ok (.enter gf args) w)
    (h : ∃ W1, (w.alloc (.deferred (some []))).alloc (.loop { state := .ready, pending := none, fn := f, tmps := a.tmps, params := ps, assign, body, defers := w.heap.size }) = W1 ∧
      CallsIn Fence.wide n P gf (#[.func (.yield (w.heap.size + 1)) #[] #[]] ++ lb) W1 fun e W3 =>
        (∃ v W4, e = .returned v ∧ (Instr.endLoop (w.heap.size + 1)).run P W3 = .ok none W4 ∧ Q .normal { a with defers := { target := .collected w.heap.size, args := #[] } :: a.defers } W4) ∨
        (∃ ch, e = .panicked ch ∧ Q (.panic ch) { a with defers := { target := .collected w.heap.size, args := #[] } :: a.defers } W3)) :
    WpAt P f (.rangeFunc g ps assign body) Q a w := by
  intro b k cs hro hb
  obtain ⟨W1, hW1, hcall⟩ := h
  have hen := run_enterLoop_outer (P := P) (w := w) b.fn a.tmps ps assign body
  rw [hb, hW1, ← hro, ← hb] at hen
  have hin := stepR_rangeFunc (P := P) (b := b) (a := a) (k := k) (cs := cs) (w := w) (w₁ := W1) (w₁' := W1) (w₂ := W1) (g := g) (l := w.heap.size + 1) (d := { target := .fn (.func gf) lb, args := #[.func (.yield (w.heap.size + 1)) #[] #[]] }) (f := gf)
    (args := #[.func (.yield (w.heap.size + 1)) #[] #[]] ++ lb) hen (by simp only [resolve, hg]; simp [go_sem]) (by simp [invoke, go_sem, eg])
  obtain ⟨e, W3, fr, hR, hs, hfn, hv⟩ := hcall.2 (b.atR { a with defers := [{ target := .collected w.heap.size, args := #[] }] ++ a.defers } (.inRangeFunc (w.heap.size + 1) :: k) :: cs) (room_wide _)
  rcases hR with ⟨v, W4, rfl, hel, hq⟩ | ⟨ch, rfl, hq⟩
  · refine ⟨.normal, _, W4, hq, stepsIn_wide.2 ((Steps.one hin).trans ((StepsIn.steps hs).trans ((Steps.one (step_leave_returned hv)).trans ?_)))⟩
    rw [finish_atR_inRangeFunc]
    exact .one (by simpa using stepR_endRangeFunc (k := k) hel)
  · refine ⟨.panic ch, _, W3, hq, .inRangeFunc (w.heap.size + 1) :: k, stepsIn_wide.2 ((Steps.one hin).trans ((StepsIn.steps hs).trans (.one ?_)))⟩
    rw [step_leave_panicked hv]
    rw [← Frame.raise_atR]
    rfl
end
end

section
open Go Go.RowKit

section
set_option linter.unusedSimpArgs false
set_option maxRecDepth 100000 in
set_option maxHeartbeats 1000000 in
/-- bitsIn's iterator, where a round may panic. -/
theorem bits1_inP (m : Nat) (hm : m < 18446744073709551616) (l Bn n₀ n : Nat) (hn : 1 ≤ n) (hn₀ : 0 < n₀) (J : List (BitOf m) → World → Prop) (X : List PanicEntry → World → Prop)
    (hY : ∀ pre x W, J pre W → (pre ++ [x]).map (·.1) <+: bitsL m → YieldAt Fence.wide (n - 1) Tryd.prog l (encB m x) W fun e W' =>
      (e = .returned (.bool true) ∧ J (pre ++ [x]) W' ∧ Below n₀ W W') ∨ (∃ ch, e = .panicked ch ∧ X ch W'))
    (W : World) (hBn : W.cell? ⟨Bn, 0, none⟩ = some (.int .u64 m)) (hT : TabAt W) (h0 : J [] W) :
    CallsIn Fence.wide n Tryd.prog 31 #[.func (.yield l) #[] #[], .pointer (some ⟨Bn, 0, none⟩)] W fun e W' =>
      (∃ v ys, e = .returned v ∧ ys.map (·.1) = bitsL m ∧ J ys W') ∨ (∃ ch, e = .panicked ch ∧ X ch W') := by
  refine callsIn_of_wp Tryd.func31 rfl trivial ?_ rfl
  simp only [Tryd.ntmps31, List.size_toArray, List.length_cons, List.length_nil, Nat.reduceAdd, Nat.reduceSub, Array.replicate_succ, Array.replicate_zero, List.push_toArray, List.append_toArray, List.nil_append, List.cons_append]
  gi_wp2
  gi_loopw [3] (fun p wr => ∃ (pre : List (BitOf m)) (r : Nat), p = .int .u64 r ∧ r ≤ m ∧ pre.map (·.1) ++ bitsL r = bitsL m ∧ J pre wr ∧ TabAt wr)
    (fun p wr => (intOf p).toNat)
  case atStart =>
    exact ⟨[], m, rfl, Nat.le_refl _, rfl, h0, hT⟩
  case round =>
    obtain ⟨pre, r, rfl, hr, hx, hJs, hTs⟩ := hrel
    by_cases hz : r = 0
    · subst hz
      gi_wp2
      go_end0
      exact .inl ⟨_, pre, rfl, by simpa [bitsL_zero] using hx, hJs⟩
    · have hr64 : r < 18446744073709551616 := by omega
      have hc := bitsL_cons hz hr64
      have hmem : Lib.ctz 64 r ∈ bitsL m := by rw [← hx, hc]; simp
      have e1 := sub1 r hz hr64
      have hx' : (pre ++ [(⟨_, hmem⟩ : BitOf m)]).map (·.1) ++ bitsL (r &&& (r - 1)) = bitsL m := by
        have h1 := hx
        rw [hc] at h1
        simpa using h1
      obtain ⟨fn, tmps, assign, body, hy, hR⟩ := hY pre ⟨_, hmem⟩ wr hJs ⟨_, hx'⟩
      have HX := Lib.hid hx'
      have HXo := Lib.hid hx
      have Hc := Lib.hid hc
      have hne : ((r : Int) != 0) = true := by simpa [bne] using hz
      have E1 := Lib.hid e1
      have L := Lib.hid (and_le r hz)
      have Hz := Lib.hid hz
      clear hx' hx hc e1 hz
      dsimp only [encB] at hy
      gi_wp2_with (first | (refine ⟨trivial, ?_⟩; gi_at_call 32; refine (callsIn_wide.2 (tz64 r Hz.out hr64 _ hTs)).mono ?_; rintro e w' ⟨rfl, rfl⟩))
      refine hR.mono ?_
      rintro e W3 (⟨rfl, hJ3, hk3⟩ | ⟨ch, rfl, hX3⟩)
      · have hT3 : TabAt W3 := fun j hj => (hk3.cell (p := ⟨0, j, none⟩) hn₀).trans (hTs j hj)
        gi_wp2
        go_roundw
        case rel => exact ⟨pre ++ [⟨_, hmem⟩], r &&& (r - 1), by rw [E1.out], by have := L.out; omega, HX.out, hJ3, hT3⟩
        case measure => rw [E1.out]; simp only [intOf]; have := L.out; omega
      · exact ⟨rfl, .inr ⟨ch, rfl, hX3⟩⟩

/-- How the body of a round may be left. -/
def roundP (n₀ : Nat) (I : World → Prop) (X : List PanicEntry → World → Prop) (W : World) : Exit → Act → World → Prop
  | .normal, _, W' => KeepsOthers W W' ∧ Below n₀ W W' ∧ I W'
  | .panic ch, a, W' => a.defers = [] ∧ KeepsOthers W W' ∧ X ch W'
  | _, _, _ => False

theorem CK.loop {A : World} {l : Nat} {r : Loop} {o : Obj} (h : A.heap[l]? = some (.loop r)) : CK A (A.putObj l o) :=
  CK.of_grown (grownBy_putObj' A l o) (fun k e => by cases e; exact ⟨_, h, rfl⟩)
theorem below_putObj {n₀ : Nat} {w A : World} {l : Nat} {o o' : Obj} (h : Below n₀ w A) (hl : n₀ ≤ l) (hw : n₀ ≤ w.heap.size) (_ : A.heap[l]? = some o) : Below n₀ w (A.putObj l o') :=
  h.trans ((Below.refl n₀ A).grown (grownBy_putObj' A l o') (Nat.le_trans hw h.size) (fun k e => by cases e; exact hl))

/-- The statement: a range over bitsIn in a function that is named, whose body may panic. -/
theorem wp_bitsP {fid : FuncId} {fn0 : Func} (hf : Tryd.prog.funcs[fid]? = some fn0) {assign body : Code} {Q : Exit → Act → World → Prop} {T : Array Value} {df : List Deferred} {w : World} (gs ps vs Bn n₀ m : Nat) (hm : m < 18446744073709551616)
    (hg : (Act.eval { tmps := T, defers := df } (.tmp gs)) = .func (.func 31) #[] #[.pointer (some ⟨Bn, 0, none⟩)])
    (hc : w.cell? ⟨Bn, 0, none⟩ = some (.int .u64 m)) (hT : TabAt w) (hg0 : 0 < n₀) (hle : n₀ ≤ w.heap.size)
    (I : List Nat → World → Prop) (X : List PanicEntry → World → Prop) (hI : ∀ s A B, CK A B → I s A → I s B) (h0 : I [] w)
    (hassign : ∀ (l : Nat) (x : Nat) (W : World) (K : Act → World → Prop), K { tmps := (T.setIfInBounds ps (.int .i64 x)).setIfInBounds vs (.int .i64 x), defers := [] } W →
      assign.wpIn (Fence.wide.inRound l) 4 Tryd.prog (Exit.then K (fun _ _ _ => False)) { tmps := T.setIfInBounds ps (.int .i64 x), defers := [] } W)
    (hbody : ∀ (l : Nat) (pre : List (BitOf m)) (x : BitOf m) (W : World), I (nos pre) W → Below n₀ w W → m.testBit x.1 = true → x.1 < 64 → nos (pre ++ [x]) <+: bitsL m →
      body.wpIn (Fence.wide.inRound l) 4 Tryd.prog (roundP n₀ (fun W' => I (nos (pre ++ [x])) W' ∧ Below n₀ w W') X W) { tmps := (T.setIfInBounds ps (.int .i64 x.1)).setIfInBounds vs (.int .i64 x.1), defers := [] } W)
    (hdone : ∀ (D : Nat) (W : World), w.heap.size ≤ D → I (bitsL m) W → Below n₀ w W → W.heap[D]? = some (.deferred (some [])) → Q .normal { tmps := T, defers := { target := .collected D, args := #[] } :: df } W)
    (hpanic : ∀ (D : Nat) (ch : List PanicEntry) (W : World), w.heap.size ≤ D → X ch W → W.heap[D]? = some (.deferred (some [])) → Q (.panic ch) { tmps := T, defers := { target := .collected D, args := #[] } :: df } W) :
    WpAt Tryd.prog fid (Code.rangeFunc (.tmp gs) #[ps] assign body) Q { tmps := T, defers := df } w := by
  have hBn : Bn < w.heap.size := World.block_lt_of_cell? w ⟨Bn, 0, none⟩ hc
  refine WpAt.range (n := 5) hg (enters_of Tryd.func31 (by kernel_rfl) rfl) ⟨_, rfl, ?_⟩
  obtain ⟨rec, hrec⟩ : ∃ rec : LoopState → Option Code → Loop, rec = fun st pe => { state := st, pending := pe, fn := fid, tmps := T, params := #[ps], assign, body, defers := w.heap.size } := ⟨_, rfl⟩
  obtain ⟨W1, hW1⟩ : ∃ W1, (w.alloc (.deferred (some []))).alloc (.loop (rec .ready none)) = W1 := ⟨_, rfl⟩
  have hL1 : W1.heap[w.heap.size + 1]? = some (.loop (rec .ready none)) := by
    rw [← hW1]; have := World.alloc_heap_new (w.alloc (.deferred (some []))) (.loop (rec .ready none)); rwa [World.size_alloc] at this
  have hK1 : W1.heap[w.heap.size]? = some (.deferred (some [])) := by
    rw [← hW1]; exact (Below.heap_alloc _ _ _ (by simp)).trans (World.alloc_heap_new w _)
  have hb1 : Below w.heap.size w W1 := by
    rw [← hW1]; exact ((Below.refl _ w).alloc (Nat.le_refl _) _).alloc (by simp) _
  have hI1 : I [] W1 := by
    rw [← hW1]; exact hI _ _ _ (CK.of_grown (World.grownBy_alloc _ _ none) (fun r e => by cases e)) (hI _ _ _ (CK.of_grown (World.grownBy_alloc w _ none) (fun r e => by cases e)) h0)
  have hW1' : (w.alloc (.deferred (some []))).alloc (.loop { state := .ready, pending := none, fn := fid, tmps := T, params := #[ps], assign, body, defers := w.heap.size }) = W1 := by rw [← hW1, hrec]
  simp only [hW1']
  clear hW1 hW1'
  refine (bits1_inP m hm (w.heap.size + 1) Bn n₀ 5 (by omega) hg0
    (fun pre W => I (nos pre) W ∧ Below n₀ w W ∧ W.heap[w.heap.size + 1]? = some (.loop (rec .ready none)) ∧ W.heap[w.heap.size]? = some (.deferred (some [])))
    (fun ch W => X ch W ∧ W.heap[w.heap.size]? = some (.deferred (some []))) ?_ W1 ((hb1.cell (p := ⟨Bn, 0, none⟩) hBn).trans hc) (hT.below hb1 (Nat.lt_of_lt_of_le hg0 hle)) ⟨hI1, hb1.mono hle, hL1, hK1⟩).mono ?_
  · rintro pre x W ⟨hi, hbl, hl, hk⟩ hpre
    have hlt : w.heap.size + 1 < W.heap.size := (Array.getElem?_eq_some_iff.1 hl).1
    have hy := run_yield (P := Tryd.prog) (args := encB m x) hl (by rw [hrec]; rfl)
    rw [hrec] at hy
    have hl2 : (W.putObj (w.heap.size + 1) (.loop { rec .ready none with state := .busy })).heap[w.heap.size + 1]? = some (.loop { rec .ready none with state := .busy }) := World.putObj_heap_same hlt
    have hk2 : (W.putObj (w.heap.size + 1) (.loop { rec .ready none with state := .busy })).heap[w.heap.size]? = some (.deferred (some [])) := (World.putObj_heap_other (by omega)).trans hk
    refine ⟨fid, _, assign, body, hy, round_of_body hf ?_⟩
    have ha := hassign (w.heap.size + 1) x.1 W
    have htm : ((#[ps] : Array Tmp).zip (encB m x)).foldl (fun tmps (t, a) => tmps.setIfInBounds t a) T = T.setIfInBounds ps (.int .i64 x.1) := by simp [encB]
    show assign.wpIn _ 4 _ _ { tmps := ((#[ps] : Array Tmp).zip (encB m x)).foldl (fun tmps (t, a) => tmps.setIfInBounds t a) T, defers := [] } W
    rw [htm]
    refine wpIn_mono (ha (fun a₁ w₁ => a₁ = { tmps := (T.setIfInBounds ps (.int .i64 x.1)).setIfInBounds vs (.int .i64 x.1), defers := [] } ∧ w₁ = W) ⟨rfl, rfl⟩) ?_
    rintro e a₁ w₁ he
    cases e with
    | normal =>
      obtain ⟨rfl, rfl⟩ := he
      refine ⟨_, run_beginRound hl (by rw [hrec]), wpIn_mono (hbody _ pre x _ (hI _ _ _ (CK.loop hl) hi) (below_putObj hbl (by omega) hle hl) (mem_bitsL.1 x.2).2 (mem_bitsL.1 x.2).1 hpre) ?_⟩
      rintro e2 a2 W3 h2
      cases e2 with
      | normal =>
        obtain ⟨ko, kb, hi3, hb3⟩ := h2
        have hl3 := ko.same _ _ hl2 rfl
        have hk3 := ko.same _ _ hk2 rfl
        have hr := run_endRound (P := Tryd.prog) none hl3
        have hlt3 : w.heap.size + 1 < W3.heap.size := (Array.getElem?_eq_some_iff.1 hl3).1
        refine ⟨_, _, hr, .inl ⟨rfl, ⟨hI _ _ _ (CK.loop hl3) hi3, below_putObj hb3 (by omega) hle hl3, ?_, (World.putObj_heap_other (by omega)).trans hk3⟩, ?_⟩⟩
        · rw [World.putObj_heap_same hlt3, hrec]; rfl
        · exact below_putObj (below_putObj (Below.refl _ _) (by omega) (by omega) hl |>.trans kb) (by omega) (by omega) hl3
      | panic ch =>
        obtain ⟨hd, ko, hx⟩ := h2
        exact ⟨hd, .inr ⟨ch, rfl, hx, ko.same _ _ hk2 rfl⟩⟩
      | exit id => exact h2.elim
      | goto t => exact h2.elim
      | ret => exact h2.elim
      | outgrown => exact h2.elim
    | exit id => exact he.elim
    | goto t => exact he.elim
    | ret => exact he.elim
    | panic ch => exact he.elim
    | outgrown => exact he.elim
  · rintro e W3 (⟨v, ys, rfl, hys, hi, hbl, hl, hk⟩ | ⟨ch, rfl, hx, hk⟩)
    · refine .inl ⟨v, _, rfl, by have := run_endLoop (P := Tryd.prog) hl (by rw [hrec]; simp); rw [hrec] at this; exact this, ?_⟩
      refine hdone _ _ (Nat.le_refl _) ?_ (below_putObj hbl (by omega) hle hl) ((World.putObj_heap_other (by omega)).trans hk)
      have h1 := hI _ _ _ (CK.loop (o := .loop { rec .ready none with state := .exhausted }) hl) hi
      rw [show nos ys = bitsL m from hys] at h1
      rw [hrec] at h1
      exact h1
    · exact .inr ⟨ch, rfl, hpanic _ _ _ (Nat.le_refl _) hx hk⟩
end
end

section
open Go Go.RowKit

section
variable {P : Program} {ops : Array Oper} {Q : Exit → Act → World → Prop} {md : Region.Mode} {S : World → Prop}

/-- Left at its end, or by a panic. -/
def Soft (Q : Exit → Act → World → Prop) : Exit → Act → World → Prop
  | .normal, a, w => Q .normal a w
  | .panic ch, a, w => Q (.panic ch) a w
  | _, _, _ => False

theorem op_soft {o : Oper} {a : Act} {w : World} {K : Act → World → Prop} {n l : Nat} (hd : ∀ c, o.op ≠ .defer c) (h : o.wp P a w K (Soft Q)) : o.wpIn (Fence.wide.inRound l) n P a w K Q := by
  refine ⟨fun _ _ => trivial, ?_⟩
  rw [show (Fence.wide.inRound l).round = some l from rfl, Oper.semAt_some l _ _ hd]
  unfold Oper.wp at h
  generalize (execOp a.eval o).run P w = r at h
  cases r with
  | ok x w' =>
    cases x <;> simp only [Oper.upon] at h <;> simp only [Oper.uponIn] <;>
      first
        | exact h
        | exact ⟨fun hh => (by cases hh), CallsIn.inRound l (callsIn_wide.2 (Calls.mono h (fun e w'' he => by cases e <;> first | exact he | exact (he : False).elim | (obtain ⟨_, _, hh⟩ := he; exact (hh : False).elim))))⟩
        | exact h.elim
        | exact ⟨fun hh => (by cases hh), fun c cs _ => (let ⟨v, w2, h1, h2⟩ := h c cs; ⟨v, w2, h1, stepsIn_wide.2 h2⟩)⟩
  | halt x w' => cases x <;> simp only [Oper.upon] at h <;> simp only [Oper.uponIn] <;> first | exact h | exact h.elim

theorem wpOp_soft {i : Nat} {a : Act} {w : World} {K : Act → World → Prop} {n l : Nat} (hd : noDeferB ops = true) (h : wpOp P ops (Soft Q) i K a w) : wpOpIn (Fence.wide.inRound l) n P ops Q i K a w := by
  unfold wpOp at h
  unfold wpOpIn
  split
  · rename_i ho
    simpa [ho] using h
  · rename_i o ho
    simp only [ho] at h
    split
    · rename_i hw
      simp only [hw, if_true] at h
      rcases h with h | ⟨_, _, _, h⟩
      · exact op_soft (noDefer_spec hd ho) h
      · exact (h : False).elim
    · rename_i hw
      simp only [hw] at h
      exact ⟨fun _ _ => trivial, h⟩

theorem wpAny_soft {n l : Nat} (hd : noDeferB ops = true) : ∀ (fuel : Nat) (listed : Array Bool) (a : Act) (w : World), wpAny P md ops (Soft Q) fuel listed a w → wpAnyIn (Fence.wide.inRound l) n P md ops Q fuel listed a w
  | 0, _, _, _, h => h
  | fuel + 1, _, _, _, h => ⟨h.1, fun i hi => wpOp_soft hd (wpOp_mono (fun a w h => wpAny_soft hd fuel _ a w h) (h.2 i hi))⟩

/-- THE BEGINNING, in a round, by a plan. -/
theorem wpIn_region_plan {ops' : Array Oper} {id n l : Nat} {a : Act} {w : World} (plan : Pl) (S : World → Prop) (hn : ops = ops') (hm : P.follows .mixedOrders = true) (hs : Region.noSelect ops' = true)
    (hb : planB .any ops' plan (Array.replicate ops'.size false) = true) (hl : decide (plan.len ≤ ops'.size) = true) (hf : noDeferB ops' = true) (hQ : ∀ c a d v w, Q (.panic c) (Act.put a d v) w → Q (.panic c) a w) (hS : S w.drew)
    (h : PlanOk P ops' (Soft Q) S plan a w.drew) : (Code.region id ops true).wpIn (Fence.wide.inRound l) n P Q a w := by
  subst hn
  exact wpIn_region_any hm (wpAny_soft hf _ _ _ _ (wpAny_of_held _ _ _ _ (wpPlan_any (Q := Soft Q) (S := S) hs (fun c a d v w h => hQ c a d v w h) plan _ _ _ _ hb (of_decide_eq_true hl) hS h.out)))

/-- An operation that comes up alone and enters a function that may panic. -/
theorem plan_callP {i : Nat} {r : Pl} {a : Act} {w : World} (d : Option Tmp) (f : Nat) (args : Array Value) (hi : decide (i < ops.size) = true) (hd : (opOf ops i).dst = d) (hw : Region.wanted (opOf ops i) (yielded ops a.tmps) = true)
    (ho : (execOp a.eval (opOf ops i)).run P w = .ok (.enter f args) w)
    (h : Calls P f args w fun e w' => (∃ v, e = .returned v ∧ S w' ∧ PlanOk P ops Q S r (a.put d v) w') ∨ (∃ ch, e = .panicked ch ∧ Q (.panic ch) a w')) : PlanOk P ops Q S (.run i r) a w := by
  subst hd
  refine ⟨?_⟩
  show wpOp P ops Q i _ a w
  unfold wpOp
  simp only [opOf_some hi, hw, if_true]
  refine .inl ?_
  unfold Oper.wp
  rw [ho]
  refine Calls.mono h fun e w' he => ?_
  rcases he with ⟨v, rfl, h4, h5⟩ | ⟨ch, rfl, hq⟩
  · exact ⟨h4, h5.out⟩
  · exact hq

theorem roundP_put {n₀ : Nat} {I : World → Prop} {X : List PanicEntry → World → Prop} {W : World} (c : List PanicEntry) (a : Act) (d : Option Tmp) (v : Value) (w : World) (h : roundP n₀ I X W (.panic c) (a.put d v) w) : roundP n₀ I X W (.panic c) a w := by
  obtain ⟨h1, h2⟩ := h
  refine ⟨?_, h2⟩
  cases d <;> exact h1

variable {f : FuncId} {a : Act} {w : World}
/-- A block that is left at its end, or by a panic. -/
theorem WpAt.block {id : Nat} {c : Code} (h : WpAt P f c (Soft Q) a w) : WpAt P f (.block id c) Q a w := by
  intro b k cs hro hb
  obtain ⟨e, a1, w1, q, r⟩ := h b (.inBlock id :: k) cs hro hb
  cases e with
  | normal => exact ⟨.normal, a1, w1, q, .head (fenced_wide _ _) stepR_block (StepsIn.trans r (.one (fenced_wide _ _) stepR_inBlock))⟩
  | panic ch => exact ⟨_, a1, w1, q, .of_steps (.one (fenced_wide _ _) stepR_block) r⟩
  | exit id' => exact q.elim
  | goto t => exact q.elim
  | ret => exact q.elim
  | outgrown => exact q.elim
end
end
end Go.Proofs.YtikefaollfaejaaDoor
