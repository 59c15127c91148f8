/- The law FnExactEvenGround of this commit: for every input the call returns true, and each argument reads afterwards as it read before. Condition: the table of math/bits is as its initialiser lays it (the card ties it to the program's text). -/
import Derived.Test.YtjmekgogaiokpaaDoorLawEvenGround
import Derived.Test.YtjmekgogaiokpaaDoorSeat
import Derived.Test.YtjmekgogaiokpaaDoorCards
import Derived.Test.YtjmekgogaiokpaaDoorTie
import Derived.SevenTiedAt
namespace Go.Proofs.YtjmekgogaiokpaaDoor
open Go.ChangeShapes Go.WideShapes Go.ChangeAt Go.RowKit

set_option maxRecDepth 100000
def fnExactEvenGround_w : Array Value := #[.int .i64 0, .int .i64 0, .float .f32 0, .float .f32 0]
theorem fnExactEvenGround_j0 : (Rows.fnExactEvenGroundRow.inPlace == Tryd.prog.inPlace 4) = true := by kernel_rfl
theorem fnExactEvenGround_j1 : (Rows.fnExactEvenGroundRow.unfollowed == Tryd.prog.unfollowed 4) = true := by kernel_rfl
theorem fnExactEvenGround_j2 : (Rows.fnExactEvenGroundRow.recurses == Tryd.prog.recurses 4) = true := by kernel_rfl
theorem fnExactEvenGround_j3 : (Rows.fnExactEvenGroundRow.named == Tryd.prog.varsNamed 4) = true := by kernel_rfl
theorem fnExactEvenGround_jw : Rows.fnExactEvenGroundRow.wf (OpenSpec.ofChange Rows.fnExactEvenGroundSpec) = true := by kernel_rfl
theorem fnExactEvenGround_jn : namedTie Tryd.prog Rows.fnExactEvenGroundRow.named Rows.fnExactEvenGroundSpec.vars = true := by kernel_rfl
theorem fnExactEvenGround_jf : joinedFacts Tryd.prog 4 Tryd.f4 Rows.fnExactEvenGroundSpec Rows.fnExactEvenGroundRow = true := by
  unfold joinedFacts
  simp only [Bool.and_eq_true]
  exact ⟨⟨⟨⟨⟨⟨⟨⟨⟨⟨⟨⟨⟨⟨⟨⟨⟨⟨⟨⟨⟨⟨⟨⟨⟨⟨⟨⟨⟨⟨⟨fnExactEvenGround_jw, laidOut⟩, (by kernel_rfl)⟩, (by kernel_rfl)⟩, fnExactEvenGround_jn⟩, (by kernel_rfl)⟩, (by kernel_rfl)⟩, (by kernel_rfl)⟩, (by kernel_rfl)⟩, fnExactEvenGround_j0⟩, fnExactEvenGround_j1⟩, fnExactEvenGround_j2⟩, fnExactEvenGround_j3⟩, (by kernel_rfl)⟩, (by kernel_rfl)⟩, (by kernel_rfl)⟩, (by kernel_rfl)⟩, (by kernel_rfl)⟩, (by kernel_rfl)⟩, (by kernel_rfl)⟩, (by kernel_rfl)⟩, (by kernel_rfl)⟩, (by kernel_rfl)⟩, (by kernel_rfl)⟩, (by kernel_rfl)⟩, seat_me⟩, seat_lf⟩, seat_mk⟩, (by kernel_rfl)⟩, (by kernel_rfl)⟩, (by kernel_rfl)⟩, (by kernel_rfl)⟩
theorem fnExactEvenGround_nm : Tryd.pinned.checked.prog.funcNamed Rows.fnExactEvenGroundRow.func = some 4 := by kernel_rfl
theorem fnExactEvenGround_rd : ∀ t ∈ Tryd.f4.params.toList, Tryd.prog.readableRec t = true ∧ t < Tryd.prog.types.size := by rw [Tryd.params4]; exact (by decide +kernel)
theorem fnExactEvenGround_ok (os : Os) : Input.okWideB Tryd.checked.prog ((World.doorLaid Tryd.prog 400 os).forCall (fun _ _ => 0) ⟨#[], fnExactEvenGround_w, []⟩) 4 ⟨#[], fnExactEvenGround_w, []⟩ = true := by kernel_rfl
theorem fnExactEvenGround_pb (os : Os) (H : Type) (enc : TypeId × Value → H) : Rows.fnExactEvenGroundSpec.preB enc Tryd.checked.prog Tryd.f4 [] false ((World.doorLaid Tryd.prog 400 os).forCall (fun _ _ => 0) ⟨#[], fnExactEvenGround_w, []⟩).memory fnExactEvenGround_w 16 = true := by kernel_rfl
theorem fnExactEvenGround_sb (os : Os) (H : Type) (enc : TypeId × Value → H) : Rows.fnExactEvenGroundSpec.sizedB enc Tryd.checked.prog Tryd.f4 false ((World.doorLaid Tryd.prog 400 os).forCall (fun _ _ => 0) ⟨#[], fnExactEvenGround_w, []⟩).memory fnExactEvenGround_w 16 = true := by kernel_rfl
theorem fnExactEvenGround_sh (os : Os) : ((World.doorLaid Tryd.prog 400 os).forCall (fun _ _ => 0) ⟨#[], fnExactEvenGround_w, []⟩).Shaped Tryd.checked.prog := World.shaped_of_B (by kernel_rfl) (by kernel_rfl)
theorem fnExactEvenGround_row : Rows.FnExactEvenGroundSaid :=
  OpenClaim.holds_of_wide 4 Tryd.f4 rfl rfl rfl rfl rfl rfl rfl ⟨rfl, rfl, rfl, rfl, rfl⟩ rfl rfl rfl rfl rfl fnExactEvenGround_nm Tryd.func4 fnExactEvenGround_jf
    (of_decide_eq_true (by kernel_rfl)) (by unfold Func.isWrapper; first | (rw [if_pos (by decide +kernel)]; kernel_rfl) | (rw [if_neg (by decide +kernel)]; exact ⟨rfl, rfl⟩))
    (fun os started H enc _ => liftT 4 Tryd.f4 Rows.fnExactEvenGroundSpec Tryd.func4 rfl rfl
      (fun H ds h => match ds, h with | [d0, d1, d2, d3], _ => rfl)
      fnExactEvenGround_rd
      fnExactEvenGround_walk os started H enc (by kernel_rfl)
      (witnessT 4 Tryd.f4 Rows.fnExactEvenGroundSpec fnExactEvenGround_w os H enc (fnExactEvenGround_sh os) (fnExactEvenGround_ok os) (fnExactEvenGround_pb os H enc) (fnExactEvenGround_sb os H enc)))

set_option maxRecDepth 100000 in
theorem fnExactEvenGround_holds : Rows.FnExactEvenGroundCardSaid :=
  Claim7.holds_tied_plain_at .later [] [.data] true Rows.fnExactEvenGroundCard.stood.harness Rows.fnExactEvenGroundCard.stood.looks
    fnExactEvenGround_row (fun _ h => by cases h) (by kernel_rfl) (fun _ h => by cases h) fnExactEvenGround_row_tie rfl ⟨rfl, rfl⟩ seat_mi (by kernel_rfl)
    (fun f fn hf hfn => by
      obtain rfl : f = 4 := Option.some.inj ((show Tryd.prog.funcNamed "loop.example/g01288/laws.FnExactEvenGround" = some 4 by kernel_rfl).symm.trans hf) |>.symm
      obtain rfl : fn = Tryd.f4 := (Option.some.inj (Tryd.func4.symm.trans hfn)).symm
      refine ⟨by kernel_rfl, fun j t ht => ?_⟩
      have hall : Tryd.f4.params.toList.all (fun t => !Tryd.prog.wantsStandIn t) = true := by kernel_rfl
      have hm : t ∈ Tryd.f4.params.toList := Array.mem_toList_iff.2 (Array.mem_of_getElem? ht)
      have h := List.all_eq_true.1 hall t hm
      simp only [Bool.not_eq_true'] at h
      exact h)
    (by kernel_rfl)
#print axioms fnExactEvenGround_holds
end Go.Proofs.YtjmekgogaiokpaaDoor
