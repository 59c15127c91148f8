/- The law FnExactStepGround of this commit: for every input the call returns true, and each argument reads afterwards as it read before. Condition: the table of math/bits is as its initialiser lays it (the card ties it to the program's text). -/
import Derived.Test.YthncidjgpbjdbaaDoorLawStepGround
import Derived.Test.YthncidjgpbjdbaaDoorSeat
import Derived.Test.YthncidjgpbjdbaaDoorCards
import Derived.Test.YthncidjgpbjdbaaDoorTie
import Derived.SevenTiedAt
namespace Go.Proofs.YthncidjgpbjdbaaDoor
open Go.ChangeShapes Go.WideShapes Go.ChangeAt Go.RowKit

set_option maxRecDepth 100000
def fnExactStepGround_w : Array Value := #[.agg #[.int .i8 0, .int .i8 0, .float .f32 0, .float .f32 0, .float .f32 0, .float .f32 0, .float .f32 0, .float .f32 0, .float .f32 0, .float .f32 0, .float .f32 0, .float .f32 0, .float .f32 0, .float .f32 0, .float .f32 0, .float .f32 0, .float .f32 0, .float .f32 0, .float .f32 0, .float .f32 0, .float .f32 0, .float .f32 0, .float .f32 0, .float .f32 0, .float .f32 0, .float .f32 0, .float .f32 0, .float .f32 0, .float .f32 0, .float .f32 0, .float .f32 0, .float .f32 0, .float .f32 0, .float .f32 0, .float .f32 0, .float .f32 0, .float .f32 0, .float .f32 0, .float .f32 0, .float .f32 0, .float .f32 0, .float .f32 0, .float .f32 0, .float .f32 0, .float .f32 0, .float .f32 0, .float .f32 0, .float .f32 0, .float .f32 0, .float .f32 0, .float .f32 0, .float .f32 0, .float .f32 0, .float .f32 0, .float .f32 0, .float .f32 0, .float .f32 0, .float .f32 0, .float .f32 0, .float .f32 0, .float .f32 0, .float .f32 0, .float .f32 0, .float .f32 0, .float .f32 0, .float .f32 0, .float .f32 0, .float .f32 0, .float .f32 0, .float .f32 0, .float .f32 0, .float .f32 0, .float .f32 0, .float .f32 0, .float .f32 0, .float .f32 0, .float .f32 0, .float .f32 0, .float .f32 0, .float .f32 0, .float .f32 0, .float .f32 0, .float .f32 0, .float .f32 0, .float .f32 0, .float .f32 0, .float .f32 0, .float .f32 0, .float .f32 0, .float .f32 0, .float .f32 0, .float .f32 0, .float .f32 0, .float .f32 0, .float .f32 0, .float .f32 0, .float .f32 0, .float .f32 0, .float .f32 0, .float .f32 0, .float .f32 0, .float .f32 0, .float .f32 0, .float .f32 0, .float .f32 0, .float .f32 0, .float .f32 0, .float .f32 0, .float .f32 0, .float .f32 0, .float .f32 0, .float .f32 0, .float .f32 0, .float .f32 0, .float .f32 0, .float .f32 0, .float .f32 0, .float .f32 0, .float .f32 0, .float .f32 0, .float .f32 0, .float .f32 0, .float .f32 0, .float .f32 0, .float .f32 0, .float .f32 0, .float .f32 0, .float .f32 0, .float .f32 0, .float .f32 0, .float .f32 0, .float .f32 0, .float .f32 0, .float .f32 0, .float .f32 0, .float .f32 0, .float .f32 0, .float .f32 0, .float .f32 0, .float .f32 0, .float .f32 0, .float .f32 0, .float .f32 0, .float .f32 0, .float .f32 0, .float .f32 0, .float .f32 0, .float .f32 0, .float .f32 0, .float .f32 0, .float .f32 0, .float .f32 0, .float .f32 0, .float .f32 0, .float .f32 0, .float .f32 0, .float .f32 0, .float .f32 0, .float .f32 0, .float .f32 0, .float .f32 0, .float .f32 0, .float .f32 0, .float .f32 0, .float .f32 0, .float .f32 0, .float .f32 0, .float .f32 0, .float .f32 0, .float .f32 0, .float .f32 0, .float .f32 0, .float .f32 0, .float .f32 0, .float .f32 0, .float .f32 0, .float .f32 0, .float .f32 0, .float .f32 0, .float .f32 0, .float .f32 0, .float .f32 0, .float .f32 0, .float .f32 0, .float .f32 0, .float .f32 0, .float .f32 0, .float .f32 0, .float .f32 0, .float .f32 0, .float .f32 0, .float .f32 0, .float .f32 0, .float .f32 0, .int .u64 0], .float .f32 0]
theorem fnExactStepGround_j0 : (Rows.fnExactStepGroundRow.inPlace == Tryd.prog.inPlace 10) = true := by kernel_rfl
theorem fnExactStepGround_j1 : (Rows.fnExactStepGroundRow.unfollowed == Tryd.prog.unfollowed 10) = true := by kernel_rfl
theorem fnExactStepGround_j2 : (Rows.fnExactStepGroundRow.recurses == Tryd.prog.recurses 10) = true := by kernel_rfl
theorem fnExactStepGround_j3 : (Rows.fnExactStepGroundRow.named == Tryd.prog.varsNamed 10) = true := by kernel_rfl
theorem fnExactStepGround_jw : Rows.fnExactStepGroundRow.wf (OpenSpec.ofChange Rows.fnExactStepGroundSpec) = true := by kernel_rfl
theorem fnExactStepGround_jn : namedTie Tryd.prog Rows.fnExactStepGroundRow.named Rows.fnExactStepGroundSpec.vars = true := by kernel_rfl
theorem fnExactStepGround_jf : joinedFacts Tryd.prog 10 Tryd.f10 Rows.fnExactStepGroundSpec Rows.fnExactStepGroundRow = true := by
  unfold joinedFacts
  simp only [Bool.and_eq_true]
  exact ⟨⟨⟨⟨⟨⟨⟨⟨⟨⟨⟨⟨⟨⟨⟨⟨⟨⟨⟨⟨⟨⟨⟨⟨⟨⟨⟨⟨⟨⟨⟨fnExactStepGround_jw, laidOut⟩, (by kernel_rfl)⟩, (by kernel_rfl)⟩, fnExactStepGround_jn⟩, (by kernel_rfl)⟩, (by kernel_rfl)⟩, (by kernel_rfl)⟩, (by kernel_rfl)⟩, fnExactStepGround_j0⟩, fnExactStepGround_j1⟩, fnExactStepGround_j2⟩, fnExactStepGround_j3⟩, (by kernel_rfl)⟩, (by kernel_rfl)⟩, (by kernel_rfl)⟩, (by kernel_rfl)⟩, (by kernel_rfl)⟩, (by kernel_rfl)⟩, (by kernel_rfl)⟩, (by kernel_rfl)⟩, (by kernel_rfl)⟩, (by kernel_rfl)⟩, (by kernel_rfl)⟩, (by kernel_rfl)⟩, seat_me⟩, seat_lf⟩, seat_mk⟩, (by kernel_rfl)⟩, (by kernel_rfl)⟩, (by kernel_rfl)⟩, (by kernel_rfl)⟩
theorem fnExactStepGround_nm : Tryd.pinned.checked.prog.funcNamed Rows.fnExactStepGroundRow.func = some 10 := by kernel_rfl
theorem fnExactStepGround_rd : ∀ t ∈ Tryd.f10.params.toList, Tryd.prog.readableRec t = true ∧ t < Tryd.prog.types.size := by rw [Tryd.params10]; exact (by decide +kernel)
theorem fnExactStepGround_ok (os : Os) : Input.okWideB Tryd.checked.prog ((World.doorLaid Tryd.prog 400 os).forCall (fun _ _ => 0) ⟨#[], fnExactStepGround_w, []⟩) 10 ⟨#[], fnExactStepGround_w, []⟩ = true := by kernel_rfl
theorem fnExactStepGround_pb (os : Os) (H : Type) (enc : TypeId × Value → H) : Rows.fnExactStepGroundSpec.preB enc Tryd.checked.prog Tryd.f10 [] false ((World.doorLaid Tryd.prog 400 os).forCall (fun _ _ => 0) ⟨#[], fnExactStepGround_w, []⟩).memory fnExactStepGround_w 16 = true := by kernel_rfl
theorem fnExactStepGround_sb (os : Os) (H : Type) (enc : TypeId × Value → H) : Rows.fnExactStepGroundSpec.sizedB enc Tryd.checked.prog Tryd.f10 false ((World.doorLaid Tryd.prog 400 os).forCall (fun _ _ => 0) ⟨#[], fnExactStepGround_w, []⟩).memory fnExactStepGround_w 16 = true := by kernel_rfl
theorem fnExactStepGround_sh (os : Os) : ((World.doorLaid Tryd.prog 400 os).forCall (fun _ _ => 0) ⟨#[], fnExactStepGround_w, []⟩).Shaped Tryd.checked.prog := World.shaped_of_B (by kernel_rfl) (by kernel_rfl)
theorem fnExactStepGround_row : Rows.FnExactStepGroundSaid :=
  OpenClaim.holds_of_wide 10 Tryd.f10 rfl rfl rfl rfl rfl rfl rfl ⟨rfl, rfl, rfl, rfl, rfl⟩ rfl rfl rfl rfl rfl fnExactStepGround_nm Tryd.func10 fnExactStepGround_jf
    (of_decide_eq_true (by kernel_rfl)) (by unfold Func.isWrapper; first | (rw [if_pos (by decide +kernel)]; kernel_rfl) | (rw [if_neg (by decide +kernel)]; exact ⟨rfl, rfl⟩))
    (fun os started H enc _ => liftT 10 Tryd.f10 Rows.fnExactStepGroundSpec Tryd.func10 rfl rfl
      (fun H ds h => match ds, h with | [d0, d1], _ => rfl)
      fnExactStepGround_rd
      fnExactStepGround_walk os started H enc (by kernel_rfl)
      (witnessT 10 Tryd.f10 Rows.fnExactStepGroundSpec fnExactStepGround_w os H enc (fnExactStepGround_sh os) (fnExactStepGround_ok os) (fnExactStepGround_pb os H enc) (fnExactStepGround_sb os H enc)))

set_option maxRecDepth 100000 in
theorem fnExactStepGround_holds : Rows.FnExactStepGroundCardSaid :=
  Claim7.holds_tied_plain_at .later [] [.data] true Rows.fnExactStepGroundCard.stood.harness Rows.fnExactStepGroundCard.stood.looks
    fnExactStepGround_row (fun _ h => by cases h) (by kernel_rfl) (fun _ h => by cases h) fnExactStepGround_row_tie rfl ⟨rfl, rfl⟩ seat_mi (by kernel_rfl)
    (fun f fn hf hfn => by
      obtain rfl : f = 10 := Option.some.inj ((show Tryd.prog.funcNamed "loop.example/g01288/laws.FnExactStepGround" = some 10 by kernel_rfl).symm.trans hf) |>.symm
      obtain rfl : fn = Tryd.f10 := (Option.some.inj (Tryd.func10.symm.trans hfn)).symm
      refine ⟨by kernel_rfl, fun j t ht => ?_⟩
      have hall : Tryd.f10.params.toList.all (fun t => !Tryd.prog.wantsStandIn t) = true := by kernel_rfl
      have hm : t ∈ Tryd.f10.params.toList := Array.mem_toList_iff.2 (Array.mem_of_getElem? ht)
      have h := List.all_eq_true.1 hall t hm
      simp only [Bool.not_eq_true'] at h
      exact h)
    (by kernel_rfl)
#print axioms fnExactStepGround_holds
end Go.Proofs.YthncidjgpbjdbaaDoor
