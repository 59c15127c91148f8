/- The law FnExactCheckGrant of this commit: for every input the call returns true, and each argument reads afterwards as it read before. Condition: the table of math/bits is as its initialiser lays it (the card ties it to the program's text). -/
import Derived.Test.YtaghnminpfgdcaaGreatDoorLawCheckGrant
import Derived.Test.YtaghnminpfgdcaaGreatDoorLiftTS
import Derived.Test.YtaghnminpfgdcaaGreatDoorSeat
import Derived.Test.YtaghnminpfgdcaaGreatDoorCards
import Derived.Test.YtaghnminpfgdcaaGreatDoorTie
import Derived.SevenTiedAt
namespace Go.Proofs.YtaghnminpfgdcaaGreatDoor
open Go Go.ChangeShapes Go.WideShapes Go.ChangeAt Go.RowKit Go.Deep
set_option linter.unusedSimpArgs false
set_option linter.unusedVariables false
set_option maxRecDepth 100000
def fnExactCheckGrant_w : Array Value := #[.agg #[.int .i8 0, .int .i8 0, .float .f32 0, .float .f32 0, .float .f32 0, .float .f32 0, .float .f32 0, .float .f32 0, .float .f32 0, .float .f32 0, .float .f32 0, .float .f32 0, .float .f32 0, .float .f32 0, .float .f32 0, .float .f32 0, .float .f32 0, .float .f32 0, .float .f32 0, .float .f32 0, .float .f32 0, .float .f32 0, .float .f32 0, .float .f32 0, .float .f32 0, .float .f32 0, .float .f32 0, .float .f32 0, .float .f32 0, .float .f32 0, .float .f32 0, .float .f32 0, .float .f32 0, .float .f32 0, .float .f32 0, .float .f32 0, .float .f32 0, .float .f32 0, .float .f32 0, .float .f32 0, .float .f32 0, .float .f32 0, .float .f32 0, .float .f32 0, .float .f32 0, .float .f32 0, .float .f32 0, .float .f32 0, .float .f32 0, .float .f32 0, .float .f32 0, .float .f32 0, .float .f32 0, .float .f32 0, .float .f32 0, .float .f32 0, .float .f32 0, .float .f32 0, .float .f32 0, .float .f32 0, .float .f32 0, .float .f32 0, .float .f32 0, .float .f32 0, .float .f32 0, .float .f32 0, .float .f32 0, .float .f32 0, .float .f32 0, .float .f32 0, .float .f32 0, .float .f32 0, .float .f32 0, .float .f32 0, .float .f32 0, .float .f32 0, .float .f32 0, .float .f32 0, .float .f32 0, .float .f32 0, .float .f32 0, .float .f32 0, .float .f32 0, .float .f32 0, .float .f32 0, .float .f32 0, .float .f32 0, .float .f32 0, .float .f32 0, .float .f32 0, .float .f32 0, .float .f32 0, .float .f32 0, .float .f32 0, .float .f32 0, .float .f32 0, .float .f32 0, .float .f32 0, .float .f32 0, .float .f32 0, .float .f32 0, .float .f32 0, .float .f32 0, .float .f32 0, .float .f32 0, .float .f32 0, .float .f32 0, .float .f32 0, .float .f32 0, .float .f32 0, .float .f32 0, .float .f32 0, .float .f32 0, .float .f32 0, .float .f32 0, .float .f32 0, .float .f32 0, .float .f32 0, .float .f32 0, .float .f32 0, .float .f32 0, .float .f32 0, .float .f32 0, .float .f32 0, .float .f32 0, .float .f32 0, .float .f32 0, .float .f32 0, .float .f32 0, .float .f32 0, .float .f32 0, .float .f32 0, .float .f32 0, .float .f32 0, .float .f32 0, .float .f32 0, .float .f32 0, .float .f32 0, .float .f32 0, .float .f32 0, .float .f32 0, .float .f32 0, .float .f32 0, .float .f32 0, .float .f32 0, .float .f32 0, .float .f32 0, .float .f32 0, .float .f32 0, .float .f32 0, .float .f32 0, .float .f32 0, .float .f32 0, .float .f32 0, .float .f32 0, .float .f32 0, .float .f32 0, .float .f32 0, .float .f32 0, .float .f32 0, .float .f32 0, .float .f32 0, .float .f32 0, .float .f32 0, .float .f32 0, .float .f32 0, .float .f32 0, .float .f32 0, .float .f32 0, .float .f32 0, .float .f32 0, .float .f32 0, .float .f32 0, .float .f32 0, .float .f32 0, .float .f32 0, .float .f32 0, .float .f32 0, .float .f32 0, .float .f32 0, .float .f32 0, .float .f32 0, .float .f32 0, .float .f32 0, .float .f32 0, .float .f32 0, .float .f32 0, .float .f32 0, .float .f32 0, .float .f32 0, .float .f32 0, .float .f32 0, .float .f32 0, .float .f32 0, .int .u64 0, .slice none 0 0], .slice none 0 0, .slice none 0 0]
theorem fnExactCheckGrant_j0 : (Rows.fnExactCheckGrantRow.inPlace == Tryz.prog.inPlace 8) = true := by kernel_rfl
theorem fnExactCheckGrant_j1 : (Rows.fnExactCheckGrantRow.unfollowed == Tryz.prog.unfollowed 8) = true := by kernel_rfl
theorem fnExactCheckGrant_j2 : (Rows.fnExactCheckGrantRow.recurses == Tryz.prog.recurses 8) = true := by kernel_rfl
theorem fnExactCheckGrant_j3 : (Rows.fnExactCheckGrantRow.named == Tryz.prog.varsNamed 8) = true := by kernel_rfl
theorem fnExactCheckGrant_jw : Rows.fnExactCheckGrantRow.wf (OpenSpec.ofChange Rows.fnExactCheckGrantSpec) = true := by kernel_rfl
theorem fnExactCheckGrant_jn : namedTie Tryz.prog Rows.fnExactCheckGrantRow.named Rows.fnExactCheckGrantSpec.vars = true := by kernel_rfl
theorem fnExactCheckGrant_jf : joinedFacts Tryz.prog 8 Tryz.f8 Rows.fnExactCheckGrantSpec Rows.fnExactCheckGrantRow = true := by
  unfold joinedFacts
  simp only [Bool.and_eq_true]
  exact ⟨⟨⟨⟨⟨⟨⟨⟨⟨⟨⟨⟨⟨⟨⟨⟨⟨⟨⟨⟨⟨⟨⟨⟨⟨⟨⟨⟨⟨⟨⟨fnExactCheckGrant_jw, laidOut⟩, (by kernel_rfl)⟩, (by kernel_rfl)⟩, fnExactCheckGrant_jn⟩, (by kernel_rfl)⟩, (by kernel_rfl)⟩, (by kernel_rfl)⟩, (by kernel_rfl)⟩, fnExactCheckGrant_j0⟩, fnExactCheckGrant_j1⟩, fnExactCheckGrant_j2⟩, fnExactCheckGrant_j3⟩, (by kernel_rfl)⟩, (by kernel_rfl)⟩, (by kernel_rfl)⟩, (by kernel_rfl)⟩, (by kernel_rfl)⟩, (by kernel_rfl)⟩, (by kernel_rfl)⟩, (by kernel_rfl)⟩, (by kernel_rfl)⟩, (by kernel_rfl)⟩, (by kernel_rfl)⟩, (by kernel_rfl)⟩, seat_me⟩, seat_lf⟩, seat_mk⟩, (by kernel_rfl)⟩, (by kernel_rfl)⟩, (by kernel_rfl)⟩, (by kernel_rfl)⟩
theorem fnExactCheckGrant_nm : Tryz.pinned.checked.prog.funcNamed Rows.fnExactCheckGrantRow.func = some 8 := by kernel_rfl
theorem fnExactCheckGrant_rd : ∀ t ∈ Tryz.f8.params.toList, Tryz.prog.readableRec t = true ∧ t < Tryz.prog.types.size := by rw [Tryz.params8]; exact (by decide +kernel)
theorem fnExactCheckGrant_ok (os : Os) : Input.okWideB Tryz.checked.prog ((World.doorLaid Tryz.prog 400 os).forCall (fun _ _ => 0) ⟨#[], fnExactCheckGrant_w, []⟩) 8 ⟨#[], fnExactCheckGrant_w, []⟩ = true := by kernel_rfl
theorem fnExactCheckGrant_pb (os : Os) (H : Type) (enc : TypeId × Value → H) : Rows.fnExactCheckGrantSpec.preB enc Tryz.checked.prog Tryz.f8 [] false ((World.doorLaid Tryz.prog 400 os).forCall (fun _ _ => 0) ⟨#[], fnExactCheckGrant_w, []⟩).memory fnExactCheckGrant_w 16 = true := by kernel_rfl
theorem fnExactCheckGrant_sb (os : Os) (H : Type) (enc : TypeId × Value → H) : Rows.fnExactCheckGrantSpec.sizedB enc Tryz.checked.prog Tryz.f8 false ((World.doorLaid Tryz.prog 400 os).forCall (fun _ _ => 0) ⟨#[], fnExactCheckGrant_w, []⟩).memory fnExactCheckGrant_w 16 = true := by kernel_rfl
theorem fnExactCheckGrant_sh (os : Os) : ((World.doorLaid Tryz.prog 400 os).forCall (fun _ _ => 0) ⟨#[], fnExactCheckGrant_w, []⟩).Shaped Tryz.checked.prog := World.shaped_of_B (by kernel_rfl) (by kernel_rfl)
theorem fnExactCheckGrant_row : Rows.FnExactCheckGrantSaid :=
  OpenClaim.holds_of_wide 8 Tryz.f8 rfl rfl rfl rfl rfl rfl rfl ⟨rfl, rfl, rfl, rfl, rfl⟩ rfl rfl rfl rfl rfl fnExactCheckGrant_nm Tryz.func8 fnExactCheckGrant_jf
    (of_decide_eq_true (by kernel_rfl)) (by unfold Func.isWrapper; first | (rw [if_pos (by decide +kernel)]; kernel_rfl) | (rw [if_neg (by decide +kernel)]; exact ⟨rfl, rfl⟩))
    (fun os started H enc _ => liftTS 8 Tryz.f8 Rows.fnExactCheckGrantSpec Tryz.func8 rfl rfl
      (fun H ds h => match ds, h with | [d0, d1, d2], _ => rfl)
      fnExactCheckGrant_rd
      fnExactCheckGrant_walk os started H enc (by kernel_rfl)
      (witnessT 8 Tryz.f8 Rows.fnExactCheckGrantSpec fnExactCheckGrant_w os H enc (fnExactCheckGrant_sh os) (fnExactCheckGrant_ok os) (fnExactCheckGrant_pb os H enc) (fnExactCheckGrant_sb os H enc)))

set_option maxRecDepth 100000 in
theorem fnExactCheckGrant_holds : Rows.FnExactCheckGrantCardSaid :=
  Claim7.holds_tied_plain_at .later [] [.data] true Rows.fnExactCheckGrantCard.stood.harness Rows.fnExactCheckGrantCard.stood.looks
    fnExactCheckGrant_row (fun _ h => by cases h) (by kernel_rfl) (fun _ h => by cases h) fnExactCheckGrant_row_tie rfl ⟨rfl, rfl⟩ seat_mi (by kernel_rfl)
    (fun f fn hf hfn => by
      obtain rfl : f = 8 := Option.some.inj ((show Tryz.prog.funcNamed "loop.example/g01288/laws.FnExactCheckGrant" = some 8 by kernel_rfl).symm.trans hf) |>.symm
      obtain rfl : fn = Tryz.f8 := (Option.some.inj (Tryz.func8.symm.trans hfn)).symm
      refine ⟨by kernel_rfl, fun j t ht => ?_⟩
      have hall : Tryz.f8.params.toList.all (fun t => !Tryz.prog.wantsStandIn t) = true := by kernel_rfl
      have hm : t ∈ Tryz.f8.params.toList := Array.mem_toList_iff.2 (Array.mem_of_getElem? ht)
      have h := List.all_eq_true.1 hall t hm
      simp only [Bool.not_eq_true'] at h
      exact h)
    (by kernel_rfl)
#print axioms fnExactCheckGrant_holds
end Go.Proofs.YtaghnminpfgdcaaGreatDoor
