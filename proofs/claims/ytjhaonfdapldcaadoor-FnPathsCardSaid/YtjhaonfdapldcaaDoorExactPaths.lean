/- The law FnPaths of this commit: for every input the call returns true, and each argument reads afterwards as it read before. Condition: the table of math/bits is as its initialiser lays it (the card ties it to the program's text). -/
import Derived.Test.YtjhaonfdapldcaaDoorLawPaths
import Derived.Test.YtjhaonfdapldcaaDoorByt
import Derived.Test.YtjhaonfdapldcaaDoorLiftTS
import Derived.Test.YtjhaonfdapldcaaDoorSeat
import Derived.Test.YtjhaonfdapldcaaDoorCards
import Derived.Test.YtjhaonfdapldcaaDoorTie
import Derived.SevenTiedAt
namespace Go.Proofs.YtjhaonfdapldcaaDoor
open Go Go.ChangeShapes Go.WideShapes Go.ChangeAt Go.RowKit Go.Deep
set_option linter.unusedSimpArgs false
set_option linter.unusedVariables false

set_option maxRecDepth 100000 in
theorem fnPaths_walk (H : Type) (enc : TypeId × Value → H) (W : World) (base : Nat) (args : Array Value) (ds : List (DataW H)) (ps : List MemPlace) (hn : args.size = Tryd.f5.params.size)
    (hv : ∀ (j : Nat) t v, Tryd.f5.params[j]? = some t → args[j]? = some v → Value.okWide Tryd.prog W .any base t v)
    (hA : DataW.TrodAll enc Tryd.prog W 0 (fun _ => true) true Tryd.f5.params.toList args.toList ds ps) (hT : TabAt W) :
    Calls Tryd.prog 5 args W fun e W' => e = .returned (.bool true) ∧ Below W.heap.size W W' := by
  rw [Tryd.params5] at hn hv hA
  obtain ⟨l⟩ := args
  match l, hn with
  | [v0, v1], _ =>
    obtain ⟨u0, us, d0, ds', a0, a1, he, _, _, h0, h1⟩ := trodAll_cons hA
    cases he
    obtain ⟨u1, us', d1, ds'', a2, a3, he, _, _, h1, _⟩ := trodAll_cons h1
    cases he
    obtain ⟨p, n, c, rfl, hx, hp⟩ := open_bytesG (okWide_slice Tryd.underlying40 (hv 0 _ v0 rfl rfl)) h0
    obtain ⟨q, m, d, rfl, hy, hq⟩ := open_bytesG (okWide_slice Tryd.underlying40 (hv 1 _ v1 rfl rfl)) h1
    by_cases hl : 3000 < n ∨ 3000 < m
    · exact fnPaths_far p q n c m d hx hy hl W
    · exact fnPaths_near p q n c m d hx hy ⟨fun h => hl (.inl h), fun h => hl (.inr h)⟩ W hp hq hT
set_option maxRecDepth 100000
def fnPaths_w : Array Value := #[.slice none 0 0, .slice none 0 0]
theorem fnPaths_j0 : (Rows.fnPathsRow.inPlace == Tryd.prog.inPlace 5) = true := by kernel_rfl
theorem fnPaths_j1 : (Rows.fnPathsRow.unfollowed == Tryd.prog.unfollowed 5) = true := by kernel_rfl
theorem fnPaths_j2 : (Rows.fnPathsRow.recurses == Tryd.prog.recurses 5) = true := by kernel_rfl
theorem fnPaths_j3 : (Rows.fnPathsRow.named == Tryd.prog.varsNamed 5) = true := by kernel_rfl
theorem fnPaths_jw : Rows.fnPathsRow.wf (OpenSpec.ofChange Rows.fnPathsSpec) = true := by kernel_rfl
theorem fnPaths_jn : namedTie Tryd.prog Rows.fnPathsRow.named Rows.fnPathsSpec.vars = true := by kernel_rfl
theorem fnPaths_jf : joinedFacts Tryd.prog 5 Tryd.f5 Rows.fnPathsSpec Rows.fnPathsRow = true := by
  unfold joinedFacts
  simp only [Bool.and_eq_true]
  exact ⟨⟨⟨⟨⟨⟨⟨⟨⟨⟨⟨⟨⟨⟨⟨⟨⟨⟨⟨⟨⟨⟨⟨⟨⟨⟨⟨⟨⟨⟨⟨fnPaths_jw, laidOut⟩, (by kernel_rfl)⟩, (by kernel_rfl)⟩, fnPaths_jn⟩, (by kernel_rfl)⟩, (by kernel_rfl)⟩, (by kernel_rfl)⟩, (by kernel_rfl)⟩, fnPaths_j0⟩, fnPaths_j1⟩, fnPaths_j2⟩, fnPaths_j3⟩, (by kernel_rfl)⟩, (by kernel_rfl)⟩, (by kernel_rfl)⟩, (by kernel_rfl)⟩, (by kernel_rfl)⟩, (by kernel_rfl)⟩, (by kernel_rfl)⟩, (by kernel_rfl)⟩, (by kernel_rfl)⟩, (by kernel_rfl)⟩, (by kernel_rfl)⟩, (by kernel_rfl)⟩, seat_me⟩, seat_lf⟩, seat_mk⟩, (by kernel_rfl)⟩, (by kernel_rfl)⟩, (by kernel_rfl)⟩, (by kernel_rfl)⟩
theorem fnPaths_nm : Tryd.pinned.checked.prog.funcNamed Rows.fnPathsRow.func = some 5 := by kernel_rfl
theorem fnPaths_rd : ∀ t ∈ Tryd.f5.params.toList, Tryd.prog.readableRec t = true ∧ t < Tryd.prog.types.size := by rw [Tryd.params5]; exact (by decide +kernel)
theorem fnPaths_ok (os : Os) : Input.okWideB Tryd.checked.prog ((World.doorLaid Tryd.prog 400 os).forCall (fun _ _ => 0) ⟨#[], fnPaths_w, []⟩) 5 ⟨#[], fnPaths_w, []⟩ = true := by kernel_rfl
theorem fnPaths_pb (os : Os) (H : Type) (enc : TypeId × Value → H) : Rows.fnPathsSpec.preB enc Tryd.checked.prog Tryd.f5 [] false ((World.doorLaid Tryd.prog 400 os).forCall (fun _ _ => 0) ⟨#[], fnPaths_w, []⟩).memory fnPaths_w 16 = true := by kernel_rfl
theorem fnPaths_sb (os : Os) (H : Type) (enc : TypeId × Value → H) : Rows.fnPathsSpec.sizedB enc Tryd.checked.prog Tryd.f5 false ((World.doorLaid Tryd.prog 400 os).forCall (fun _ _ => 0) ⟨#[], fnPaths_w, []⟩).memory fnPaths_w 16 = true := by kernel_rfl
theorem fnPaths_sh (os : Os) : ((World.doorLaid Tryd.prog 400 os).forCall (fun _ _ => 0) ⟨#[], fnPaths_w, []⟩).Shaped Tryd.checked.prog := World.shaped_of_B (by kernel_rfl) (by kernel_rfl)
theorem fnPaths_row : Rows.FnPathsSaid :=
  OpenClaim.holds_of_wide 5 Tryd.f5 rfl rfl rfl rfl rfl rfl rfl ⟨rfl, rfl, rfl, rfl, rfl⟩ rfl rfl rfl rfl rfl fnPaths_nm Tryd.func5 fnPaths_jf
    (of_decide_eq_true (by kernel_rfl)) (by unfold Func.isWrapper; first | (rw [if_pos (by decide +kernel)]; kernel_rfl) | (rw [if_neg (by decide +kernel)]; exact ⟨rfl, rfl⟩))
    (fun os started H enc _ => liftTS 5 Tryd.f5 Rows.fnPathsSpec Tryd.func5 rfl rfl
      (fun H ds h => match ds, h with | [d0, d1], _ => rfl)
      fnPaths_rd
      fnPaths_walk os started H enc (by kernel_rfl)
      (witnessT 5 Tryd.f5 Rows.fnPathsSpec fnPaths_w os H enc (fnPaths_sh os) (fnPaths_ok os) (fnPaths_pb os H enc) (fnPaths_sb os H enc)))

set_option maxRecDepth 100000 in
theorem fnPaths_holds : Rows.FnPathsCardSaid :=
  Claim7.holds_tied_plain_at .later [] [.data] true Rows.fnPathsCard.stood.harness Rows.fnPathsCard.stood.looks
    fnPaths_row (fun _ h => by cases h) (by kernel_rfl) (fun _ h => by cases h) fnPaths_row_tie rfl ⟨rfl, rfl⟩ seat_mi (by kernel_rfl)
    (fun f fn hf hfn => by
      obtain rfl : f = 5 := Option.some.inj ((show Tryd.prog.funcNamed "loop.example/g01288/laws.FnPaths" = some 5 by kernel_rfl).symm.trans hf) |>.symm
      obtain rfl : fn = Tryd.f5 := (Option.some.inj (Tryd.func5.symm.trans hfn)).symm
      refine ⟨by kernel_rfl, fun j t ht => ?_⟩
      have hall : Tryd.f5.params.toList.all (fun t => !Tryd.prog.wantsStandIn t) = true := by kernel_rfl
      have hm : t ∈ Tryd.f5.params.toList := Array.mem_toList_iff.2 (Array.mem_of_getElem? ht)
      have h := List.all_eq_true.1 hall t hm
      simp only [Bool.not_eq_true'] at h
      exact h)
    (by kernel_rfl)
#print axioms fnPaths_holds
end Go.Proofs.YtjhaonfdapldcaaDoor
