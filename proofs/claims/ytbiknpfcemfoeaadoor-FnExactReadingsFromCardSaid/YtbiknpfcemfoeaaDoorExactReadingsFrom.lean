/- The law FnExactReadingsFrom of this commit: for every input the call returns true, and each argument reads afterwards as it read before. Condition: the five sentinel errors are as their initialisers lay them (the card ties them to the program's text). -/
import Derived.Test.YtbiknpfcemfoeaaDoorLawRf
import Derived.Test.YtbiknpfcemfoeaaDoorStr
import Derived.Test.YtbiknpfcemfoeaaDoorWitE
import Derived.Test.YtbiknpfcemfoeaaDoorCards
import Derived.Test.YtbiknpfcemfoeaaDoorTie
import Derived.SevenTiedAt
namespace Go.Proofs.YtbiknpfcemfoeaaDoor
open Go Go.ChangeShapes Go.WideShapes Go.ChangeAt Go.RowKit Go.Deep
set_option linter.unusedSimpArgs false
set_option linter.unusedVariables false
set_option maxRecDepth 100000 in
set_option maxHeartbeats 1000000 in
theorem fnExactReadingsFrom_far (T S : Nat) (X Y : Int) (R : Nat) (x y : Int) (p : Option Addr) (n c : Nat) (hn : 1048576 < n) (hx : n ≤ maxLen) (w : World) : Calls Tryd.prog 4 #[.agg (Aq T S), .agg (Ste X Y R x y), .slice p n c] w fun e w' => e = .returned (.bool true) ∧ Below w.heap.size w w' := by
  unfold maxLen at hx
  have hi : (1048576 : Int) < n := by omega
  have B0 : Below w.heap.size w ((w.alloc (.cells (Aq T S) 34)).alloc (.cells (Ste X Y R x y) 39)) := ((Below.refl _ _).alloc (Nat.le_refl _) _).alloc (by simp) _
  simp only [Aq, Ste] at B0 ⊢
  go_enter Tryd.func4, Tryd.ntmps4
  go_wp2
  go_ret
  exact ⟨rfl, B0⟩
set_option maxRecDepth 100000 in
theorem fnExactReadingsFrom_walk (H : Type) (enc : TypeId × Value → H) (W : World) (base : Nat) (args : Array Value) (ds : List (DataW H)) (ps : List MemPlace) (hn : args.size = Tryd.f4.params.size)
    (hv : ∀ (j : Nat) t v, Tryd.f4.params[j]? = some t → args[j]? = some v → Value.okWide Tryd.prog W .any base t v)
    (hA : DataW.TrodAll enc Tryd.prog W 0 (fun _ => true) true Tryd.f4.params.toList args.toList ds ps) (s : Nat → Addr) (hS : Sents W s) :
    Calls Tryd.prog 4 args W fun e W' => e = .returned (.bool true) ∧ Below W.heap.size W W' := by
  rw [Tryd.params4] at hn hv hA
  obtain ⟨l⟩ := args
  match l, hn with
  | [v0, v1, v2], _ =>
    obtain ⟨u0, us, d0, ds', a0, a1, he, _, _, h0, h1⟩ := trodAll_cons hA
    cases he
    obtain ⟨u1, us1, d1, ds1, a2, a3, he, _, _, h2, h3⟩ := trodAll_cons h1
    cases he
    obtain ⟨u2, us2, d2, ds2, a4, a5, he, _, _, h4, h5⟩ := trodAll_cons h3
    cases he
    obtain ⟨T, S, rfl, hT, hS2⟩ := okWide_aq (hv 0 _ v0 rfl rfl)
    obtain ⟨X, Y, R, x, y, rfl, hX, hY, _, hx, hy⟩ := okWide_st (hv 1 _ v1 rfl rfl)
    obtain ⟨p, c, L, rfl, hL, hp, _⟩ := open_is (okWide_slice Tryd.underlying40 (hv 2 _ v2 rfl rfl)) h4
    by_cases h9 : L.length ≤ 1048576
    · exact fnExactReadingsFrom_near T S X Y R x y hT hS2 hX hY hx hy p c L h9 W hp hS
    · exact fnExactReadingsFrom_far _ _ _ _ _ _ _ p _ c (by omega) hL W

set_option maxRecDepth 100000
theorem fnExactReadingsFrom_j0 : (Rows.fnExactReadingsFromRow.inPlace == Tryd.prog.inPlace 4) = true := by kernel_rfl
theorem fnExactReadingsFrom_j1 : (Rows.fnExactReadingsFromRow.unfollowed == Tryd.prog.unfollowed 4) = true := by kernel_rfl
theorem fnExactReadingsFrom_j2 : (Rows.fnExactReadingsFromRow.recurses == Tryd.prog.recurses 4) = true := by kernel_rfl
theorem fnExactReadingsFrom_j3 : (Rows.fnExactReadingsFromRow.named == Tryd.prog.varsNamed 4) = true := by kernel_rfl
theorem fnExactReadingsFrom_jw : Rows.fnExactReadingsFromRow.wf (OpenSpec.ofChange Rows.fnExactReadingsFromSpec) = true := by kernel_rfl
theorem fnExactReadingsFrom_jn : namedTie Tryd.prog Rows.fnExactReadingsFromRow.named Rows.fnExactReadingsFromSpec.vars = true := by kernel_rfl
theorem fnExactReadingsFrom_jf : joinedFacts Tryd.prog 4 Tryd.f4 Rows.fnExactReadingsFromSpec Rows.fnExactReadingsFromRow = true := by
  unfold joinedFacts
  simp only [Bool.and_eq_true]
  exact ⟨⟨⟨⟨⟨⟨⟨⟨⟨⟨⟨⟨⟨⟨⟨⟨⟨⟨⟨⟨⟨⟨⟨⟨⟨⟨⟨⟨⟨⟨⟨fnExactReadingsFrom_jw, (by kernel_rfl)⟩, (by kernel_rfl)⟩, (by kernel_rfl)⟩, fnExactReadingsFrom_jn⟩, (by kernel_rfl)⟩, (by kernel_rfl)⟩, (by kernel_rfl)⟩, (by kernel_rfl)⟩, fnExactReadingsFrom_j0⟩, fnExactReadingsFrom_j1⟩, fnExactReadingsFrom_j2⟩, fnExactReadingsFrom_j3⟩, (by kernel_rfl)⟩, (by kernel_rfl)⟩, (by kernel_rfl)⟩, (by kernel_rfl)⟩, (by kernel_rfl)⟩, (by kernel_rfl)⟩, (by kernel_rfl)⟩, (by kernel_rfl)⟩, (by kernel_rfl)⟩, (by kernel_rfl)⟩, (by kernel_rfl)⟩, (by kernel_rfl)⟩, (by kernel_rfl)⟩, (by kernel_rfl)⟩, (by kernel_rfl)⟩, (by kernel_rfl)⟩, (by kernel_rfl)⟩, (by kernel_rfl)⟩, (by kernel_rfl)⟩
theorem fnExactReadingsFrom_nm : Tryd.pinned.checked.prog.funcNamed Rows.fnExactReadingsFromRow.func = some 4 := by kernel_rfl
theorem fnExactReadingsFrom_rd : ∀ t ∈ Tryd.f4.params.toList, Tryd.prog.readableRec t = true ∧ t < Tryd.prog.types.size := by rw [Tryd.params4]; exact (by decide +kernel)
theorem fnExactReadingsFrom_ok (os : Os) : Input.okWideB Tryd.checked.prog ((World.laidAll Tryd.prog os laidE).forCall (fun _ _ => 0) ⟨#[], #[.agg (Aq 0 0), .agg (Ste 0 0 0 0 0), .slice none 0 0], []⟩) 4 ⟨#[], #[.agg (Aq 0 0), .agg (Ste 0 0 0 0 0), .slice none 0 0], []⟩ = true := by kernel_rfl
theorem fnExactReadingsFrom_pb (os : Os) (H : Type) (enc : TypeId × Value → H) : Rows.fnExactReadingsFromSpec.preB enc Tryd.checked.prog Tryd.f4 [] false ((World.laidAll Tryd.prog os laidE).forCall (fun _ _ => 0) ⟨#[], #[.agg (Aq 0 0), .agg (Ste 0 0 0 0 0), .slice none 0 0], []⟩).memory #[.agg (Aq 0 0), .agg (Ste 0 0 0 0 0), .slice none 0 0] 16 = true := by kernel_rfl
theorem fnExactReadingsFrom_sb (os : Os) (H : Type) (enc : TypeId × Value → H) : Rows.fnExactReadingsFromSpec.sizedB enc Tryd.checked.prog Tryd.f4 false ((World.laidAll Tryd.prog os laidE).forCall (fun _ _ => 0) ⟨#[], #[.agg (Aq 0 0), .agg (Ste 0 0 0 0 0), .slice none 0 0], []⟩).memory #[.agg (Aq 0 0), .agg (Ste 0 0 0 0 0), .slice none 0 0] 16 = true := by kernel_rfl
theorem fnExactReadingsFrom_vr : varsRowed Tryd.prog Rows.fnExactReadingsFromSpec.vars = true := by kernel_rfl
theorem fnExactReadingsFrom_row : Rows.FnExactReadingsFromSaid :=
  OpenClaim.holds_of_wide 4 Tryd.f4 rfl rfl rfl rfl rfl rfl rfl ⟨rfl, rfl, rfl, rfl, rfl⟩ rfl rfl rfl rfl rfl fnExactReadingsFrom_nm Tryd.func4 fnExactReadingsFrom_jf
    (of_decide_eq_true (by kernel_rfl)) (by unfold Func.isWrapper; first | (rw [if_pos (by decide +kernel)]; kernel_rfl) | (rw [if_neg (by decide +kernel)]; exact ⟨rfl, rfl⟩))
    (fun os started H enc _ => liftE 4 Tryd.f4 Rows.fnExactReadingsFromSpec Tryd.func4 rfl rfl fnExactReadingsFrom_vr
      (fun H ds gs h h' => match ds, h, gs, h' with | [d0, d1, d2], _, [g0, g1, g2, g3, g4], _ => rfl)
      fnExactReadingsFrom_rd
      fnExactReadingsFrom_walk os started H enc (by kernel_rfl)
      (witnessE 4 Tryd.f4 Rows.fnExactReadingsFromSpec #[.agg (Aq 0 0), .agg (Ste 0 0 0 0 0), .slice none 0 0] os H enc (fnExactReadingsFrom_ok os) (fnExactReadingsFrom_pb os H enc) (fnExactReadingsFrom_sb os H enc)))

set_option maxRecDepth 100000 in
theorem fnExactReadingsFrom_holds : Rows.FnExactReadingsFromCardSaid :=
  Claim7.holds_tied_plain_at .later [] [.sentinel, .sentinel, .sentinel, .sentinel, .sentinel] true Rows.fnExactReadingsFromCard.stood.harness Rows.fnExactReadingsFromCard.stood.looks
    fnExactReadingsFrom_row (fun _ h => by cases h) (by kernel_rfl) (fun _ h => by cases h) fnExactReadingsFrom_row_tie rfl ⟨rfl, rfl⟩ (by kernel_rfl) (by kernel_rfl)
    (fun f fn hf hfn => by
      obtain rfl : f = 4 := Option.some.inj ((show Tryd.prog.funcNamed "loop.example/g01288/laws.FnExactReadingsFrom" = some 4 by kernel_rfl).symm.trans hf) |>.symm
      obtain rfl : fn = Tryd.f4 := (Option.some.inj (Tryd.func4.symm.trans hfn)).symm
      refine ⟨by kernel_rfl, fun j t ht => ?_⟩
      have hall : Tryd.f4.params.toList.all (fun t => !Tryd.prog.wantsStandIn t) = true := by kernel_rfl
      have hm : t ∈ Tryd.f4.params.toList := Array.mem_toList_iff.2 (Array.mem_of_getElem? ht)
      have h := List.all_eq_true.1 hall t hm
      simp only [Bool.not_eq_true'] at h
      exact h)
    (by kernel_rfl)
#print axioms fnExactReadingsFrom_holds
end Go.Proofs.YtbiknpfcemfoeaaDoor
