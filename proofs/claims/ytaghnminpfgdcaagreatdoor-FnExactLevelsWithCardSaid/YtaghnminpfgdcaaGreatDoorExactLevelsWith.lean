/- The law FnExactLevelsWith of this commit: for every input the call returns true, and each argument reads afterwards as it read before. Condition: the table of math/bits and errors.errorType are as their initialisers lay them (the card ties it to the program's text). -/
import Derived.Test.YtaghnminpfgdcaaGreatDoorLawLevelsWith
import Derived.Test.YtaghnminpfgdcaaGreatDoorLiftTE
import Derived.Test.YtaghnminpfgdcaaGreatDoorSeat
import Derived.Test.YtaghnminpfgdcaaGreatDoorCards
import Derived.Test.YtaghnminpfgdcaaGreatDoorTie
import Derived.SevenTiedAt
namespace Go.Proofs.YtaghnminpfgdcaaGreatDoor
open Go Go.ChangeShapes Go.WideShapes Go.ChangeAt Go.RowKit Go.Deep
set_option linter.unusedSimpArgs false
set_option linter.unusedVariables false
set_option maxRecDepth 100000
def fnExactLevelsWith_w : Array Value := #[.agg #[.int .i8 0, .int .i8 0, .float .f32 0, .float .f32 0, .float .f32 0, .float .f32 0, .float .f32 0, .float .f32 0, .float .f32 0, .float .f32 0, .float .f32 0, .float .f32 0, .float .f32 0, .float .f32 0, .float .f32 0, .float .f32 0, .float .f32 0, .float .f32 0, .float .f32 0, .float .f32 0, .float .f32 0, .float .f32 0, .float .f32 0, .float .f32 0, .float .f32 0, .float .f32 0, .float .f32 0, .float .f32 0, .float .f32 0, .float .f32 0, .float .f32 0, .float .f32 0, .float .f32 0, .float .f32 0, .float .f32 0, .float .f32 0, .float .f32 0, .float .f32 0, .float .f32 0, .float .f32 0, .float .f32 0, .float .f32 0, .float .f32 0, .float .f32 0, .float .f32 0, .float .f32 0, .float .f32 0, .float .f32 0, .float .f32 0, .float .f32 0, .float .f32 0, .float .f32 0, .float .f32 0, .float .f32 0, .float .f32 0, .float .f32 0, .float .f32 0, .float .f32 0, .float .f32 0, .float .f32 0, .float .f32 0, .float .f32 0, .float .f32 0, .float .f32 0, .float .f32 0, .float .f32 0, .float .f32 0, .float .f32 0, .float .f32 0, .float .f32 0, .float .f32 0, .float .f32 0, .float .f32 0, .float .f32 0, .float .f32 0, .float .f32 0, .float .f32 0, .float .f32 0, .float .f32 0, .float .f32 0, .float .f32 0, .float .f32 0, .float .f32 0, .float .f32 0, .float .f32 0, .float .f32 0, .float .f32 0, .float .f32 0, .float .f32 0, .float .f32 0, .float .f32 0, .float .f32 0, .float .f32 0, .float .f32 0, .float .f32 0, .float .f32 0, .float .f32 0, .float .f32 0, .float .f32 0, .float .f32 0, .float .f32 0, .float .f32 0, .float .f32 0, .float .f32 0, .float .f32 0, .float .f32 0, .float .f32 0, .float .f32 0, .float .f32 0, .float .f32 0, .float .f32 0, .float .f32 0, .float .f32 0, .float .f32 0, .float .f32 0, .float .f32 0, .float .f32 0, .float .f32 0, .float .f32 0, .float .f32 0, .float .f32 0, .float .f32 0, .float .f32 0, .float .f32 0, .float .f32 0, .float .f32 0, .float .f32 0, .float .f32 0, .float .f32 0, .float .f32 0, .float .f32 0, .float .f32 0, .float .f32 0, .float .f32 0, .float .f32 0, .float .f32 0, .float .f32 0, .float .f32 0, .float .f32 0, .float .f32 0, .float .f32 0, .float .f32 0, .float .f32 0, .float .f32 0, .float .f32 0, .float .f32 0, .float .f32 0, .float .f32 0, .float .f32 0, .float .f32 0, .float .f32 0, .float .f32 0, .float .f32 0, .float .f32 0, .float .f32 0, .float .f32 0, .float .f32 0, .float .f32 0, .float .f32 0, .float .f32 0, .float .f32 0, .float .f32 0, .float .f32 0, .float .f32 0, .float .f32 0, .float .f32 0, .float .f32 0, .float .f32 0, .float .f32 0, .float .f32 0, .float .f32 0, .float .f32 0, .float .f32 0, .float .f32 0, .float .f32 0, .float .f32 0, .float .f32 0, .float .f32 0, .float .f32 0, .float .f32 0, .float .f32 0, .float .f32 0, .float .f32 0, .float .f32 0, .float .f32 0, .float .f32 0, .float .f32 0, .float .f32 0, .float .f32 0, .float .f32 0, .float .f32 0, .float .f32 0, .float .f32 0, .float .f32 0, .int .u64 0, .slice none 0 0], .slice none 0 0]
theorem fnExactLevelsWith_j0 : (Rows.fnExactLevelsWithRow.inPlace == Tryz.prog.inPlace 4) = true := by kernel_rfl
theorem fnExactLevelsWith_j1 : (Rows.fnExactLevelsWithRow.unfollowed == Tryz.prog.unfollowed 4) = true := by kernel_rfl
theorem fnExactLevelsWith_j2 : (Rows.fnExactLevelsWithRow.recurses == Tryz.prog.recurses 4) = true := by kernel_rfl
theorem fnExactLevelsWith_j3 : (Rows.fnExactLevelsWithRow.named == Tryz.prog.varsNamed 4) = true := by kernel_rfl
theorem fnExactLevelsWith_jw : Rows.fnExactLevelsWithRow.wf (OpenSpec.ofChange Rows.fnExactLevelsWithSpec) = true := by kernel_rfl
theorem fnExactLevelsWith_jn : namedTie Tryz.prog Rows.fnExactLevelsWithRow.named Rows.fnExactLevelsWithSpec.vars = true := by kernel_rfl
theorem fnExactLevelsWith_jf : joinedFacts Tryz.prog 4 Tryz.f4 Rows.fnExactLevelsWithSpec Rows.fnExactLevelsWithRow = true := by
  unfold joinedFacts
  simp only [Bool.and_eq_true]
  exact ⟨⟨⟨⟨⟨⟨⟨⟨⟨⟨⟨⟨⟨⟨⟨⟨⟨⟨⟨⟨⟨⟨⟨⟨⟨⟨⟨⟨⟨⟨⟨fnExactLevelsWith_jw, laidOut⟩, (by kernel_rfl)⟩, (by kernel_rfl)⟩, fnExactLevelsWith_jn⟩, (by kernel_rfl)⟩, (by kernel_rfl)⟩, (by kernel_rfl)⟩, (by kernel_rfl)⟩, fnExactLevelsWith_j0⟩, fnExactLevelsWith_j1⟩, fnExactLevelsWith_j2⟩, fnExactLevelsWith_j3⟩, (by kernel_rfl)⟩, (by kernel_rfl)⟩, (by kernel_rfl)⟩, (by kernel_rfl)⟩, (by kernel_rfl)⟩, (by kernel_rfl)⟩, (by kernel_rfl)⟩, (by kernel_rfl)⟩, (by kernel_rfl)⟩, (by kernel_rfl)⟩, (by kernel_rfl)⟩, (by kernel_rfl)⟩, seat_me⟩, seat_lf⟩, seat_mk⟩, (by kernel_rfl)⟩, (by kernel_rfl)⟩, (by kernel_rfl)⟩, (by kernel_rfl)⟩
theorem fnExactLevelsWith_nm : Tryz.pinned.checked.prog.funcNamed Rows.fnExactLevelsWithRow.func = some 4 := by kernel_rfl
theorem fnExactLevelsWith_rd : ∀ t ∈ Tryz.f4.params.toList, Tryz.prog.readableRec t = true ∧ t < Tryz.prog.types.size := by rw [Tryz.params4]; exact (by decide +kernel)
theorem fnExactLevelsWith_ok (os : Os) : Input.okWideB Tryz.checked.prog ((World.doorLaid Tryz.prog 400 os).forCall (fun _ _ => 0) ⟨#[], fnExactLevelsWith_w, []⟩) 4 ⟨#[], fnExactLevelsWith_w, []⟩ = true := by kernel_rfl
theorem fnExactLevelsWith_pb (os : Os) (H : Type) (enc : TypeId × Value → H) : Rows.fnExactLevelsWithSpec.preB enc Tryz.checked.prog Tryz.f4 [] false ((World.doorLaid Tryz.prog 400 os).forCall (fun _ _ => 0) ⟨#[], fnExactLevelsWith_w, []⟩).memory fnExactLevelsWith_w 16 = true := by kernel_rfl
theorem fnExactLevelsWith_sb (os : Os) (H : Type) (enc : TypeId × Value → H) : Rows.fnExactLevelsWithSpec.sizedB enc Tryz.checked.prog Tryz.f4 false ((World.doorLaid Tryz.prog 400 os).forCall (fun _ _ => 0) ⟨#[], fnExactLevelsWith_w, []⟩).memory fnExactLevelsWith_w 16 = true := by kernel_rfl
theorem fnExactLevelsWith_sh (os : Os) : ((World.doorLaid Tryz.prog 400 os).forCall (fun _ _ => 0) ⟨#[], fnExactLevelsWith_w, []⟩).Shaped Tryz.checked.prog := World.shaped_of_B (by kernel_rfl) (by kernel_rfl)
theorem fnExactLevelsWith_row : Rows.FnExactLevelsWithSaid :=
  OpenClaim.holds_of_wide 4 Tryz.f4 rfl rfl rfl rfl rfl rfl rfl ⟨rfl, rfl, rfl, rfl, rfl⟩ rfl rfl rfl rfl rfl fnExactLevelsWith_nm Tryz.func4 fnExactLevelsWith_jf
    (of_decide_eq_true (by kernel_rfl)) (by unfold Func.isWrapper; first | (rw [if_pos (by decide +kernel)]; kernel_rfl) | (rw [if_neg (by decide +kernel)]; exact ⟨rfl, rfl⟩))
    (fun os started H enc _ => liftTE 4 Tryz.f4 Rows.fnExactLevelsWithSpec Tryz.func4 rfl rfl
      (fun H ds h => match ds, h with | [d0, d1], _ => rfl)
      fnExactLevelsWith_rd
      fnExactLevelsWith_walk os started H enc (by kernel_rfl)
      (witnessTE 4 Tryz.f4 Rows.fnExactLevelsWithSpec fnExactLevelsWith_w os H enc (fnExactLevelsWith_sh os) (fnExactLevelsWith_ok os) (fnExactLevelsWith_pb os H enc) (fnExactLevelsWith_sb os H enc)))

set_option maxRecDepth 100000 in
theorem fnExactLevelsWith_holds : Rows.FnExactLevelsWithCardSaid :=
  Claim7.holds_tied_plain_at .later [] [.data, .handle] true Rows.fnExactLevelsWithCard.stood.harness Rows.fnExactLevelsWithCard.stood.looks
    fnExactLevelsWith_row (fun _ h => by cases h) (by kernel_rfl) (fun _ h => by cases h) fnExactLevelsWith_row_tie rfl ⟨rfl, rfl⟩ seat_mi (by kernel_rfl)
    (fun f fn hf hfn => by
      obtain rfl : f = 4 := Option.some.inj ((show Tryz.prog.funcNamed "loop.example/g01288/laws.FnExactLevelsWith" = some 4 by kernel_rfl).symm.trans hf) |>.symm
      obtain rfl : fn = Tryz.f4 := (Option.some.inj (Tryz.func4.symm.trans hfn)).symm
      refine ⟨by kernel_rfl, fun j t ht => ?_⟩
      have hall : Tryz.f4.params.toList.all (fun t => !Tryz.prog.wantsStandIn t) = true := by kernel_rfl
      have hm : t ∈ Tryz.f4.params.toList := Array.mem_toList_iff.2 (Array.mem_of_getElem? ht)
      have h := List.all_eq_true.1 hall t hm
      simp only [Bool.not_eq_true'] at h
      exact h)
    (by kernel_rfl)
#print axioms fnExactLevelsWith_holds
end Go.Proofs.YtaghnminpfgdcaaGreatDoor
