/- The law FnExactGroundWith of this commit: for every input the call returns true, and each argument reads afterwards as it read before. Condition: the table of math/bits and errors.errorType are as their initialisers lay them (the card ties it to the program's text). -/
import Derived.Test.YtaghnminpfgdcaaGreatDoorLawGroundWith
import Derived.Test.YtaghnminpfgdcaaGreatDoorLiftTE
import Derived.Test.YtaghnminpfgdcaaGreatDoorSeat
import Derived.Test.YtaghnminpfgdcaaGreatDoorCards
import Derived.Test.YtaghnminpfgdcaaGreatDoorTie
import Derived.SevenTiedAt
namespace Go.Proofs.YtaghnminpfgdcaaGreatDoor
open Go Go.ChangeShapes Go.WideShapes Go.ChangeAt Go.RowKit Go.Deep
set_option linter.unusedSimpArgs false
set_option linter.unusedVariables false
set_option maxRecDepth 100000
def fnExactGroundWith_w : Array Value := #[.agg #[.int .i8 0, .int .i8 0, .float .f32 0, .float .f32 0, .float .f32 0, .float .f32 0, .float .f32 0, .float .f32 0, .float .f32 0, .float .f32 0, .float .f32 0, .float .f32 0, .float .f32 0, .float .f32 0, .float .f32 0, .float .f32 0, .float .f32 0, .float .f32 0, .float .f32 0, .float .f32 0, .float .f32 0, .float .f32 0, .float .f32 0, .float .f32 0, .float .f32 0, .float .f32 0, .float .f32 0, .float .f32 0, .float .f32 0, .float .f32 0, .float .f32 0, .float .f32 0, .float .f32 0, .float .f32 0, .float .f32 0, .float .f32 0, .float .f32 0, .float .f32 0, .float .f32 0, .float .f32 0, .float .f32 0, .float .f32 0, .float .f32 0, .float .f32 0, .float .f32 0, .float .f32 0, .float .f32 0, .float .f32 0, .float .f32 0, .float .f32 0, .float .f32 0, .float .f32 0, .float .f32 0, .float .f32 0, .float .f32 0, .float .f32 0, .float .f32 0, .float .f32 0, .float .f32 0, .float .f32 0, .float .f32 0, .float .f32 0, .float .f32 0, .float .f32 0, .float .f32 0, .float .f32 0, .float .f32 0, .float .f32 0, .float .f32 0, .float .f32 0, .float .f32 0, .float .f32 0, .float .f32 0, .float .f32 0, .float .f32 0, .float .f32 0, .float .f32 0, .float .f32 0, .float .f32 0, .float .f32 0, .float .f32 0, .float .f32 0, .float .f32 0, .float .f32 0, .float .f32 0, .float .f32 0, .float .f32 0, .float .f32 0, .float .f32 0, .float .f32 0, .float .f32 0, .float .f32 0, .float .f32 0, .float .f32 0, .float .f32 0, .float .f32 0, .float .f32 0, .float .f32 0, .float .f32 0, .float .f32 0, .float .f32 0, .float .f32 0, .float .f32 0, .float .f32 0, .float .f32 0, .float .f32 0, .float .f32 0, .float .f32 0, .float .f32 0, .float .f32 0, .float .f32 0, .float .f32 0, .float .f32 0, .float .f32 0, .float .f32 0, .float .f32 0, .float .f32 0, .float .f32 0, .float .f32 0, .float .f32 0, .float .f32 0, .float .f32 0, .float .f32 0, .float .f32 0, .float .f32 0, .float .f32 0, .float .f32 0, .float .f32 0, .float .f32 0, .float .f32 0, .float .f32 0, .float .f32 0, .float .f32 0, .float .f32 0, .float .f32 0, .float .f32 0, .float .f32 0, .float .f32 0, .float .f32 0, .float .f32 0, .float .f32 0, .float .f32 0, .float .f32 0, .float .f32 0, .float .f32 0, .float .f32 0, .float .f32 0, .float .f32 0, .float .f32 0, .float .f32 0, .float .f32 0, .float .f32 0, .float .f32 0, .float .f32 0, .float .f32 0, .float .f32 0, .float .f32 0, .float .f32 0, .float .f32 0, .float .f32 0, .float .f32 0, .float .f32 0, .float .f32 0, .float .f32 0, .float .f32 0, .float .f32 0, .float .f32 0, .float .f32 0, .float .f32 0, .float .f32 0, .float .f32 0, .float .f32 0, .float .f32 0, .float .f32 0, .float .f32 0, .float .f32 0, .float .f32 0, .float .f32 0, .float .f32 0, .float .f32 0, .float .f32 0, .float .f32 0, .float .f32 0, .float .f32 0, .float .f32 0, .float .f32 0, .float .f32 0, .float .f32 0, .float .f32 0, .float .f32 0, .float .f32 0, .float .f32 0, .float .f32 0, .float .f32 0, .int .u64 0, .slice none 0 0], .slice none 0 0]
theorem fnExactGroundWith_j0 : (Rows.fnExactGroundWithRow.inPlace == Tryz.prog.inPlace 3) = true := by kernel_rfl
theorem fnExactGroundWith_j1 : (Rows.fnExactGroundWithRow.unfollowed == Tryz.prog.unfollowed 3) = true := by kernel_rfl
theorem fnExactGroundWith_j2 : (Rows.fnExactGroundWithRow.recurses == Tryz.prog.recurses 3) = true := by kernel_rfl
theorem fnExactGroundWith_j3 : (Rows.fnExactGroundWithRow.named == Tryz.prog.varsNamed 3) = true := by kernel_rfl
theorem fnExactGroundWith_jw : Rows.fnExactGroundWithRow.wf (OpenSpec.ofChange Rows.fnExactGroundWithSpec) = true := by kernel_rfl
theorem fnExactGroundWith_jn : namedTie Tryz.prog Rows.fnExactGroundWithRow.named Rows.fnExactGroundWithSpec.vars = true := by kernel_rfl
theorem fnExactGroundWith_jf : joinedFacts Tryz.prog 3 Tryz.f3 Rows.fnExactGroundWithSpec Rows.fnExactGroundWithRow = true := by
  unfold joinedFacts
  simp only [Bool.and_eq_true]
  exact ⟨⟨⟨⟨⟨⟨⟨⟨⟨⟨⟨⟨⟨⟨⟨⟨⟨⟨⟨⟨⟨⟨⟨⟨⟨⟨⟨⟨⟨⟨⟨fnExactGroundWith_jw, laidOut⟩, (by kernel_rfl)⟩, (by kernel_rfl)⟩, fnExactGroundWith_jn⟩, (by kernel_rfl)⟩, (by kernel_rfl)⟩, (by kernel_rfl)⟩, (by kernel_rfl)⟩, fnExactGroundWith_j0⟩, fnExactGroundWith_j1⟩, fnExactGroundWith_j2⟩, fnExactGroundWith_j3⟩, (by kernel_rfl)⟩, (by kernel_rfl)⟩, (by kernel_rfl)⟩, (by kernel_rfl)⟩, (by kernel_rfl)⟩, (by kernel_rfl)⟩, (by kernel_rfl)⟩, (by kernel_rfl)⟩, (by kernel_rfl)⟩, (by kernel_rfl)⟩, (by kernel_rfl)⟩, (by kernel_rfl)⟩, seat_me⟩, seat_lf⟩, seat_mk⟩, (by kernel_rfl)⟩, (by kernel_rfl)⟩, (by kernel_rfl)⟩, (by kernel_rfl)⟩
theorem fnExactGroundWith_nm : Tryz.pinned.checked.prog.funcNamed Rows.fnExactGroundWithRow.func = some 3 := by kernel_rfl
theorem fnExactGroundWith_rd : ∀ t ∈ Tryz.f3.params.toList, Tryz.prog.readableRec t = true ∧ t < Tryz.prog.types.size := by rw [Tryz.params3]; exact (by decide +kernel)
theorem fnExactGroundWith_ok (os : Os) : Input.okWideB Tryz.checked.prog ((World.doorLaid Tryz.prog 400 os).forCall (fun _ _ => 0) ⟨#[], fnExactGroundWith_w, []⟩) 3 ⟨#[], fnExactGroundWith_w, []⟩ = true := by kernel_rfl
theorem fnExactGroundWith_pb (os : Os) (H : Type) (enc : TypeId × Value → H) : Rows.fnExactGroundWithSpec.preB enc Tryz.checked.prog Tryz.f3 [] false ((World.doorLaid Tryz.prog 400 os).forCall (fun _ _ => 0) ⟨#[], fnExactGroundWith_w, []⟩).memory fnExactGroundWith_w 16 = true := by kernel_rfl
theorem fnExactGroundWith_sb (os : Os) (H : Type) (enc : TypeId × Value → H) : Rows.fnExactGroundWithSpec.sizedB enc Tryz.checked.prog Tryz.f3 false ((World.doorLaid Tryz.prog 400 os).forCall (fun _ _ => 0) ⟨#[], fnExactGroundWith_w, []⟩).memory fnExactGroundWith_w 16 = true := by kernel_rfl
theorem fnExactGroundWith_sh (os : Os) : ((World.doorLaid Tryz.prog 400 os).forCall (fun _ _ => 0) ⟨#[], fnExactGroundWith_w, []⟩).Shaped Tryz.checked.prog := World.shaped_of_B (by kernel_rfl) (by kernel_rfl)
theorem fnExactGroundWith_row : Rows.FnExactGroundWithSaid :=
  OpenClaim.holds_of_wide 3 Tryz.f3 rfl rfl rfl rfl rfl rfl rfl ⟨rfl, rfl, rfl, rfl, rfl⟩ rfl rfl rfl rfl rfl fnExactGroundWith_nm Tryz.func3 fnExactGroundWith_jf
    (of_decide_eq_true (by kernel_rfl)) (by unfold Func.isWrapper; first | (rw [if_pos (by decide +kernel)]; kernel_rfl) | (rw [if_neg (by decide +kernel)]; exact ⟨rfl, rfl⟩))
    (fun os started H enc _ => liftTE 3 Tryz.f3 Rows.fnExactGroundWithSpec Tryz.func3 rfl rfl
      (fun H ds h => match ds, h with | [d0, d1], _ => rfl)
      fnExactGroundWith_rd
      fnExactGroundWith_walk os started H enc (by kernel_rfl)
      (witnessTE 3 Tryz.f3 Rows.fnExactGroundWithSpec fnExactGroundWith_w os H enc (fnExactGroundWith_sh os) (fnExactGroundWith_ok os) (fnExactGroundWith_pb os H enc) (fnExactGroundWith_sb os H enc)))

set_option maxRecDepth 100000 in
theorem fnExactGroundWith_holds : Rows.FnExactGroundWithCardSaid :=
  Claim7.holds_tied_plain_at .later [] [.data, .handle] true Rows.fnExactGroundWithCard.stood.harness Rows.fnExactGroundWithCard.stood.looks
    fnExactGroundWith_row (fun _ h => by cases h) (by kernel_rfl) (fun _ h => by cases h) fnExactGroundWith_row_tie rfl ⟨rfl, rfl⟩ seat_mi (by kernel_rfl)
    (fun f fn hf hfn => by
      obtain rfl : f = 3 := Option.some.inj ((show Tryz.prog.funcNamed "loop.example/g01288/laws.FnExactGroundWith" = some 3 by kernel_rfl).symm.trans hf) |>.symm
      obtain rfl : fn = Tryz.f3 := (Option.some.inj (Tryz.func3.symm.trans hfn)).symm
      refine ⟨by kernel_rfl, fun j t ht => ?_⟩
      have hall : Tryz.f3.params.toList.all (fun t => !Tryz.prog.wantsStandIn t) = true := by kernel_rfl
      have hm : t ∈ Tryz.f3.params.toList := Array.mem_toList_iff.2 (Array.mem_of_getElem? ht)
      have h := List.all_eq_true.1 hall t hm
      simp only [Bool.not_eq_true'] at h
      exact h)
    (by kernel_rfl)
#print axioms fnExactGroundWith_holds
end Go.Proofs.YtaghnminpfgdcaaGreatDoor
