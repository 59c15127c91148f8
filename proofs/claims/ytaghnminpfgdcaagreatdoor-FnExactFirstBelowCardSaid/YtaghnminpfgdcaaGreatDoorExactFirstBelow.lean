/- The law FnExactFirstBelow of this commit: for every input the call returns true, and each argument reads afterwards as it read before. Condition: the table of math/bits and errors.errorType are as their initialisers lay them (the card ties it to the program's text). -/
import Derived.Test.YtaghnminpfgdcaaGreatDoorLawFirstBelow
import Derived.Test.YtaghnminpfgdcaaGreatDoorLiftTE
import Derived.Test.YtaghnminpfgdcaaGreatDoorSeat
import Derived.Test.YtaghnminpfgdcaaGreatDoorCards
import Derived.Test.YtaghnminpfgdcaaGreatDoorTie
import Derived.SevenTiedAt
namespace Go.Proofs.YtaghnminpfgdcaaGreatDoor
open Go Go.ChangeShapes Go.WideShapes Go.ChangeAt Go.RowKit Go.Deep
set_option linter.unusedSimpArgs false
set_option linter.unusedVariables false
set_option maxRecDepth 100000
def fnExactFirstBelow_w : Array Value := #[.agg #[.int .i8 0, .int .i8 0, .float .f32 0, .float .f32 0, .float .f32 0, .float .f32 0, .float .f32 0, .float .f32 0, .float .f32 0, .float .f32 0, .float .f32 0, .float .f32 0, .float .f32 0, .float .f32 0, .float .f32 0, .float .f32 0, .float .f32 0, .float .f32 0, .float .f32 0, .float .f32 0, .float .f32 0, .float .f32 0, .float .f32 0, .float .f32 0, .float .f32 0, .float .f32 0, .float .f32 0, .float .f32 0, .float .f32 0, .float .f32 0, .float .f32 0, .float .f32 0, .float .f32 0, .float .f32 0, .float .f32 0, .float .f32 0, .float .f32 0, .float .f32 0, .float .f32 0, .float .f32 0, .float .f32 0, .float .f32 0, .float .f32 0, .float .f32 0, .float .f32 0, .float .f32 0, .float .f32 0, .float .f32 0, .float .f32 0, .float .f32 0, .float .f32 0, .float .f32 0, .float .f32 0, .float .f32 0, .float .f32 0, .float .f32 0, .float .f32 0, .float .f32 0, .float .f32 0, .float .f32 0, .float .f32 0, .float .f32 0, .float .f32 0, .float .f32 0, .float .f32 0, .float .f32 0, .float .f32 0, .float .f32 0, .float .f32 0, .float .f32 0, .float .f32 0, .float .f32 0, .float .f32 0, .float .f32 0, .float .f32 0, .float .f32 0, .float .f32 0, .float .f32 0, .float .f32 0, .float .f32 0, .float .f32 0, .float .f32 0, .float .f32 0, .float .f32 0, .float .f32 0, .float .f32 0, .float .f32 0, .float .f32 0, .float .f32 0, .float .f32 0, .float .f32 0, .float .f32 0, .float .f32 0, .float .f32 0, .float .f32 0, .float .f32 0, .float .f32 0, .float .f32 0, .float .f32 0, .float .f32 0, .float .f32 0, .float .f32 0, .float .f32 0, .float .f32 0, .float .f32 0, .float .f32 0, .float .f32 0, .float .f32 0, .float .f32 0, .float .f32 0, .float .f32 0, .float .f32 0, .float .f32 0, .float .f32 0, .float .f32 0, .float .f32 0, .float .f32 0, .float .f32 0, .float .f32 0, .float .f32 0, .float .f32 0, .float .f32 0, .float .f32 0, .float .f32 0, .float .f32 0, .float .f32 0, .float .f32 0, .float .f32 0, .float .f32 0, .float .f32 0, .float .f32 0, .float .f32 0, .float .f32 0, .float .f32 0, .float .f32 0, .float .f32 0, .float .f32 0, .float .f32 0, .float .f32 0, .float .f32 0, .float .f32 0, .float .f32 0, .float .f32 0, .float .f32 0, .float .f32 0, .float .f32 0, .float .f32 0, .float .f32 0, .float .f32 0, .float .f32 0, .float .f32 0, .float .f32 0, .float .f32 0, .float .f32 0, .float .f32 0, .float .f32 0, .float .f32 0, .float .f32 0, .float .f32 0, .float .f32 0, .float .f32 0, .float .f32 0, .float .f32 0, .float .f32 0, .float .f32 0, .float .f32 0, .float .f32 0, .float .f32 0, .float .f32 0, .float .f32 0, .float .f32 0, .float .f32 0, .float .f32 0, .float .f32 0, .float .f32 0, .float .f32 0, .float .f32 0, .float .f32 0, .float .f32 0, .float .f32 0, .float .f32 0, .float .f32 0, .float .f32 0, .float .f32 0, .float .f32 0, .float .f32 0, .float .f32 0, .float .f32 0, .float .f32 0, .float .f32 0, .float .f32 0, .float .f32 0, .float .f32 0, .float .f32 0, .int .u64 0, .slice none 0 0], .slice none 0 0]
theorem fnExactFirstBelow_j0 : (Rows.fnExactFirstBelowRow.inPlace == Tryz.prog.inPlace 5) = true := by kernel_rfl
theorem fnExactFirstBelow_j1 : (Rows.fnExactFirstBelowRow.unfollowed == Tryz.prog.unfollowed 5) = true := by kernel_rfl
theorem fnExactFirstBelow_j2 : (Rows.fnExactFirstBelowRow.recurses == Tryz.prog.recurses 5) = true := by kernel_rfl
theorem fnExactFirstBelow_j3 : (Rows.fnExactFirstBelowRow.named == Tryz.prog.varsNamed 5) = true := by kernel_rfl
theorem fnExactFirstBelow_jw : Rows.fnExactFirstBelowRow.wf (OpenSpec.ofChange Rows.fnExactFirstBelowSpec) = true := by kernel_rfl
theorem fnExactFirstBelow_jn : namedTie Tryz.prog Rows.fnExactFirstBelowRow.named Rows.fnExactFirstBelowSpec.vars = true := by kernel_rfl
theorem fnExactFirstBelow_jf : joinedFacts Tryz.prog 5 Tryz.f5 Rows.fnExactFirstBelowSpec Rows.fnExactFirstBelowRow = true := by
  unfold joinedFacts
  simp only [Bool.and_eq_true]
  exact ⟨⟨⟨⟨⟨⟨⟨⟨⟨⟨⟨⟨⟨⟨⟨⟨⟨⟨⟨⟨⟨⟨⟨⟨⟨⟨⟨⟨⟨⟨⟨fnExactFirstBelow_jw, laidOut⟩, (by kernel_rfl)⟩, (by kernel_rfl)⟩, fnExactFirstBelow_jn⟩, (by kernel_rfl)⟩, (by kernel_rfl)⟩, (by kernel_rfl)⟩, (by kernel_rfl)⟩, fnExactFirstBelow_j0⟩, fnExactFirstBelow_j1⟩, fnExactFirstBelow_j2⟩, fnExactFirstBelow_j3⟩, (by kernel_rfl)⟩, (by kernel_rfl)⟩, (by kernel_rfl)⟩, (by kernel_rfl)⟩, (by kernel_rfl)⟩, (by kernel_rfl)⟩, (by kernel_rfl)⟩, (by kernel_rfl)⟩, (by kernel_rfl)⟩, (by kernel_rfl)⟩, (by kernel_rfl)⟩, (by kernel_rfl)⟩, seat_me⟩, seat_lf⟩, seat_mk⟩, (by kernel_rfl)⟩, (by kernel_rfl)⟩, (by kernel_rfl)⟩, (by kernel_rfl)⟩
theorem fnExactFirstBelow_nm : Tryz.pinned.checked.prog.funcNamed Rows.fnExactFirstBelowRow.func = some 5 := by kernel_rfl
theorem fnExactFirstBelow_rd : ∀ t ∈ Tryz.f5.params.toList, Tryz.prog.readableRec t = true ∧ t < Tryz.prog.types.size := by rw [Tryz.params5]; exact (by decide +kernel)
theorem fnExactFirstBelow_ok (os : Os) : Input.okWideB Tryz.checked.prog ((World.doorLaid Tryz.prog 400 os).forCall (fun _ _ => 0) ⟨#[], fnExactFirstBelow_w, []⟩) 5 ⟨#[], fnExactFirstBelow_w, []⟩ = true := by kernel_rfl
theorem fnExactFirstBelow_pb (os : Os) (H : Type) (enc : TypeId × Value → H) : Rows.fnExactFirstBelowSpec.preB enc Tryz.checked.prog Tryz.f5 [] false ((World.doorLaid Tryz.prog 400 os).forCall (fun _ _ => 0) ⟨#[], fnExactFirstBelow_w, []⟩).memory fnExactFirstBelow_w 16 = true := by kernel_rfl
theorem fnExactFirstBelow_sb (os : Os) (H : Type) (enc : TypeId × Value → H) : Rows.fnExactFirstBelowSpec.sizedB enc Tryz.checked.prog Tryz.f5 false ((World.doorLaid Tryz.prog 400 os).forCall (fun _ _ => 0) ⟨#[], fnExactFirstBelow_w, []⟩).memory fnExactFirstBelow_w 16 = true := by kernel_rfl
theorem fnExactFirstBelow_sh (os : Os) : ((World.doorLaid Tryz.prog 400 os).forCall (fun _ _ => 0) ⟨#[], fnExactFirstBelow_w, []⟩).Shaped Tryz.checked.prog := World.shaped_of_B (by kernel_rfl) (by kernel_rfl)
theorem fnExactFirstBelow_row : Rows.FnExactFirstBelowSaid :=
  OpenClaim.holds_of_wide 5 Tryz.f5 rfl rfl rfl rfl rfl rfl rfl ⟨rfl, rfl, rfl, rfl, rfl⟩ rfl rfl rfl rfl rfl fnExactFirstBelow_nm Tryz.func5 fnExactFirstBelow_jf
    (of_decide_eq_true (by kernel_rfl)) (by unfold Func.isWrapper; first | (rw [if_pos (by decide +kernel)]; kernel_rfl) | (rw [if_neg (by decide +kernel)]; exact ⟨rfl, rfl⟩))
    (fun os started H enc _ => liftTE 5 Tryz.f5 Rows.fnExactFirstBelowSpec Tryz.func5 rfl rfl
      (fun H ds h => match ds, h with | [d0, d1], _ => rfl)
      fnExactFirstBelow_rd
      fnExactFirstBelow_walk os started H enc (by kernel_rfl)
      (witnessTE 5 Tryz.f5 Rows.fnExactFirstBelowSpec fnExactFirstBelow_w os H enc (fnExactFirstBelow_sh os) (fnExactFirstBelow_ok os) (fnExactFirstBelow_pb os H enc) (fnExactFirstBelow_sb os H enc)))

set_option maxRecDepth 100000 in
theorem fnExactFirstBelow_holds : Rows.FnExactFirstBelowCardSaid :=
  Claim7.holds_tied_plain_at .later [] [.data, .handle] true Rows.fnExactFirstBelowCard.stood.harness Rows.fnExactFirstBelowCard.stood.looks
    fnExactFirstBelow_row (fun _ h => by cases h) (by kernel_rfl) (fun _ h => by cases h) fnExactFirstBelow_row_tie rfl ⟨rfl, rfl⟩ seat_mi (by kernel_rfl)
    (fun f fn hf hfn => by
      obtain rfl : f = 5 := Option.some.inj ((show Tryz.prog.funcNamed "loop.example/g01288/laws.FnExactFirstBelow" = some 5 by kernel_rfl).symm.trans hf) |>.symm
      obtain rfl : fn = Tryz.f5 := (Option.some.inj (Tryz.func5.symm.trans hfn)).symm
      refine ⟨by kernel_rfl, fun j t ht => ?_⟩
      have hall : Tryz.f5.params.toList.all (fun t => !Tryz.prog.wantsStandIn t) = true := by kernel_rfl
      have hm : t ∈ Tryz.f5.params.toList := Array.mem_toList_iff.2 (Array.mem_of_getElem? ht)
      have h := List.all_eq_true.1 hall t hm
      simp only [Bool.not_eq_true'] at h
      exact h)
    (by kernel_rfl)
#print axioms fnExactFirstBelow_holds
end Go.Proofs.YtaghnminpfgdcaaGreatDoor
