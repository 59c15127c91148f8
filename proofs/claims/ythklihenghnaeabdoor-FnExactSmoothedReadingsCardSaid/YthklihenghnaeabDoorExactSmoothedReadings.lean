/- The law FnExactSmoothedReadings of this commit: for every input the call returns true, and each argument reads afterwards as it read before. Condition: the five sentinel errors are as their initialisers lay them (the card ties them to the program's text). -/
import Derived.Test.YthklihenghnaeabDoorLawSmo
import Derived.Test.YthklihenghnaeabDoorWitE
import Derived.Test.YthklihenghnaeabDoorCards
import Derived.Test.YthklihenghnaeabDoorTie
import Derived.SevenTiedAt
namespace Go.Proofs.YthklihenghnaeabDoor
open Go Go.ChangeShapes Go.WideShapes Go.ChangeAt Go.RowKit Go.Deep
set_option linter.unusedSimpArgs false
set_option linter.unusedVariables false
set_option maxRecDepth 100000 in
theorem fnExactSmoothedReadings_walk (H : Type) (enc : TypeId × Value → H) (W : World) (base : Nat) (args : Array Value) (ds : List (DataW H)) (ps : List MemPlace) (hn : args.size = Tryd.f5.params.size)
    (hv : ∀ (j : Nat) t v, Tryd.f5.params[j]? = some t → args[j]? = some v → Value.okWide Tryd.prog W .any base t v)
    (hA : DataW.TrodAll enc Tryd.prog W 0 (fun _ => true) true Tryd.f5.params.toList args.toList ds ps) (s : Nat → Addr) (hS : Sents W s) :
    Calls Tryd.prog 5 args W fun e W' => e = .returned (.bool true) ∧ Below W.heap.size W W' := by
  rw [Tryd.params5] at hn hv hA
  obtain ⟨l⟩ := args
  match l, hn with
  | [v0], _ =>
    obtain ⟨u0, us, d0, ds', a0, a1, he, _, _, h0, h1⟩ := trodAll_cons hA
    cases he
    obtain ⟨p, c, L, rfl, hL, hp, hok⟩ := open_rs (okWide_slice Tryd.underlying37 (hv 0 _ v0 rfl rfl)) h0
    by_cases h1 : L.length ≤ 1048576
    · refine fnExactSmoothedReadings_near p c L h1 (fun e he => ?_) W hp hS
      have := (hok e he).2
      simp only [Lit.wf, IntKind.min, IntKind.max, IntKind.bits, IntKind.signed, Bool.and_eq_true, decide_eq_true_eq] at this
      simpa using this
    · exact fnExactSmoothedReadings_far p _ c (by omega) hL W

set_option maxRecDepth 100000
theorem fnExactSmoothedReadings_j0 : (Rows.fnExactSmoothedReadingsRow.inPlace == Tryd.prog.inPlace 5) = true := by kernel_rfl
theorem fnExactSmoothedReadings_j1 : (Rows.fnExactSmoothedReadingsRow.unfollowed == Tryd.prog.unfollowed 5) = true := by kernel_rfl
theorem fnExactSmoothedReadings_j2 : (Rows.fnExactSmoothedReadingsRow.recurses == Tryd.prog.recurses 5) = true := by kernel_rfl
theorem fnExactSmoothedReadings_j3 : (Rows.fnExactSmoothedReadingsRow.named == Tryd.prog.varsNamed 5) = true := by kernel_rfl
theorem fnExactSmoothedReadings_jw : Rows.fnExactSmoothedReadingsRow.wf (OpenSpec.ofChange Rows.fnExactSmoothedReadingsSpec) = true := by kernel_rfl
theorem fnExactSmoothedReadings_jn : namedTie Tryd.prog Rows.fnExactSmoothedReadingsRow.named Rows.fnExactSmoothedReadingsSpec.vars = true := by kernel_rfl
theorem fnExactSmoothedReadings_jf : joinedFacts Tryd.prog 5 Tryd.f5 Rows.fnExactSmoothedReadingsSpec Rows.fnExactSmoothedReadingsRow = true := by
  unfold joinedFacts
  simp only [Bool.and_eq_true]
  exact ⟨⟨⟨⟨⟨⟨⟨⟨⟨⟨⟨⟨⟨⟨⟨⟨⟨⟨⟨⟨⟨⟨⟨⟨⟨⟨⟨⟨⟨⟨⟨fnExactSmoothedReadings_jw, (by kernel_rfl)⟩, (by kernel_rfl)⟩, (by kernel_rfl)⟩, fnExactSmoothedReadings_jn⟩, (by kernel_rfl)⟩, (by kernel_rfl)⟩, (by kernel_rfl)⟩, (by kernel_rfl)⟩, fnExactSmoothedReadings_j0⟩, fnExactSmoothedReadings_j1⟩, fnExactSmoothedReadings_j2⟩, fnExactSmoothedReadings_j3⟩, (by kernel_rfl)⟩, (by kernel_rfl)⟩, (by kernel_rfl)⟩, (by kernel_rfl)⟩, (by kernel_rfl)⟩, (by kernel_rfl)⟩, (by kernel_rfl)⟩, (by kernel_rfl)⟩, (by kernel_rfl)⟩, (by kernel_rfl)⟩, (by kernel_rfl)⟩, (by kernel_rfl)⟩, (by kernel_rfl)⟩, (by kernel_rfl)⟩, (by kernel_rfl)⟩, (by kernel_rfl)⟩, (by kernel_rfl)⟩, (by kernel_rfl)⟩, (by kernel_rfl)⟩
theorem fnExactSmoothedReadings_nm : Tryd.pinned.checked.prog.funcNamed Rows.fnExactSmoothedReadingsRow.func = some 5 := by kernel_rfl
theorem fnExactSmoothedReadings_rd : ∀ t ∈ Tryd.f5.params.toList, Tryd.prog.readableRec t = true ∧ t < Tryd.prog.types.size := by rw [Tryd.params5]; exact (by decide +kernel)
theorem fnExactSmoothedReadings_ok (os : Os) : Input.okWideB Tryd.checked.prog ((World.laidAll Tryd.prog os laidE).forCall (fun _ _ => 0) ⟨#[], #[.slice none 0 0], []⟩) 5 ⟨#[], #[.slice none 0 0], []⟩ = true := by kernel_rfl
theorem fnExactSmoothedReadings_pb (os : Os) (H : Type) (enc : TypeId × Value → H) : Rows.fnExactSmoothedReadingsSpec.preB enc Tryd.checked.prog Tryd.f5 [] false ((World.laidAll Tryd.prog os laidE).forCall (fun _ _ => 0) ⟨#[], #[.slice none 0 0], []⟩).memory #[.slice none 0 0] 16 = true := by kernel_rfl
theorem fnExactSmoothedReadings_sb (os : Os) (H : Type) (enc : TypeId × Value → H) : Rows.fnExactSmoothedReadingsSpec.sizedB enc Tryd.checked.prog Tryd.f5 false ((World.laidAll Tryd.prog os laidE).forCall (fun _ _ => 0) ⟨#[], #[.slice none 0 0], []⟩).memory #[.slice none 0 0] 16 = true := by kernel_rfl
theorem fnExactSmoothedReadings_vr : varsRowed Tryd.prog Rows.fnExactSmoothedReadingsSpec.vars = true := by kernel_rfl
theorem fnExactSmoothedReadings_row : Rows.FnExactSmoothedReadingsSaid :=
  OpenClaim.holds_of_wide 5 Tryd.f5 rfl rfl rfl rfl rfl rfl rfl ⟨rfl, rfl, rfl, rfl, rfl⟩ rfl rfl rfl rfl rfl fnExactSmoothedReadings_nm Tryd.func5 fnExactSmoothedReadings_jf
    (of_decide_eq_true (by kernel_rfl)) (by unfold Func.isWrapper; first | (rw [if_pos (by decide +kernel)]; kernel_rfl) | (rw [if_neg (by decide +kernel)]; exact ⟨rfl, rfl⟩))
    (fun os started H enc _ => liftE 5 Tryd.f5 Rows.fnExactSmoothedReadingsSpec Tryd.func5 rfl rfl fnExactSmoothedReadings_vr
      (fun H ds gs h h' => match ds, h, gs, h' with | [d0], _, [g0, g1, g2, g3, g4], _ => rfl)
      fnExactSmoothedReadings_rd
      fnExactSmoothedReadings_walk os started H enc (by kernel_rfl)
      (witnessE 5 Tryd.f5 Rows.fnExactSmoothedReadingsSpec #[.slice none 0 0] os H enc (fnExactSmoothedReadings_ok os) (fnExactSmoothedReadings_pb os H enc) (fnExactSmoothedReadings_sb os H enc)))

set_option maxRecDepth 100000 in
theorem fnExactSmoothedReadings_holds : Rows.FnExactSmoothedReadingsCardSaid :=
  Claim7.holds_tied_plain_at .later [] [.sentinel, .sentinel, .sentinel, .sentinel, .sentinel] true Rows.fnExactSmoothedReadingsCard.stood.harness Rows.fnExactSmoothedReadingsCard.stood.looks
    fnExactSmoothedReadings_row (fun _ h => by cases h) (by kernel_rfl) (fun _ h => by cases h) fnExactSmoothedReadings_row_tie rfl ⟨rfl, rfl⟩ (by kernel_rfl) (by kernel_rfl)
    (fun f fn hf hfn => by
      obtain rfl : f = 5 := Option.some.inj ((show Tryd.prog.funcNamed "loop.example/g01288/laws.FnExactSmoothedReadings" = some 5 by kernel_rfl).symm.trans hf) |>.symm
      obtain rfl : fn = Tryd.f5 := (Option.some.inj (Tryd.func5.symm.trans hfn)).symm
      refine ⟨by kernel_rfl, fun j t ht => ?_⟩
      have hall : Tryd.f5.params.toList.all (fun t => !Tryd.prog.wantsStandIn t) = true := by kernel_rfl
      have hm : t ∈ Tryd.f5.params.toList := Array.mem_toList_iff.2 (Array.mem_of_getElem? ht)
      have h := List.all_eq_true.1 hall t hm
      simp only [Bool.not_eq_true'] at h
      exact h)
    (by kernel_rfl)
#print axioms fnExactSmoothedReadings_holds
end Go.Proofs.YthklihenghnaeabDoor
