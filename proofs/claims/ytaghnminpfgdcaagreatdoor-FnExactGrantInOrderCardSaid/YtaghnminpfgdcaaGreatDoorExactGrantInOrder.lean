/- The law FnExactGrantInOrder of this commit: for every input the call returns true, and each argument reads afterwards as it read before. Condition: the table of math/bits is as its initialiser lays it (the card ties it to the program's text). -/
import Derived.Test.YtaghnminpfgdcaaGreatDoorLawGrantInOrder
import Derived.Test.YtaghnminpfgdcaaGreatDoorLiftTS
import Derived.Test.YtaghnminpfgdcaaGreatDoorSeat
import Derived.Test.YtaghnminpfgdcaaGreatDoorCards
import Derived.Test.YtaghnminpfgdcaaGreatDoorTie
import Derived.SevenTiedAt
namespace Go.Proofs.YtaghnminpfgdcaaGreatDoor
open Go Go.ChangeShapes Go.WideShapes Go.ChangeAt Go.RowKit Go.Deep
set_option linter.unusedSimpArgs false
set_option linter.unusedVariables false
set_option maxRecDepth 100000
def fnExactGrantInOrder_w : Array Value := #[.agg #[.int .i8 0, .int .i8 0, .float .f32 0, .float .f32 0, .float .f32 0, .float .f32 0, .float .f32 0, .float .f32 0, .float .f32 0, .float .f32 0, .float .f32 0, .float .f32 0, .float .f32 0, .float .f32 0, .float .f32 0, .float .f32 0, .float .f32 0, .float .f32 0, .float .f32 0, .float .f32 0, .float .f32 0, .float .f32 0, .float .f32 0, .float .f32 0, .float .f32 0, .float .f32 0, .float .f32 0, .float .f32 0, .float .f32 0, .float .f32 0, .float .f32 0, .float .f32 0, .float .f32 0, .float .f32 0, .float .f32 0, .float .f32 0, .float .f32 0, .float .f32 0, .float .f32 0, .float .f32 0, .float .f32 0, .float .f32 0, .float .f32 0, .float .f32 0, .float .f32 0, .float .f32 0, .float .f32 0, .float .f32 0, .float .f32 0, .float .f32 0, .float .f32 0, .float .f32 0, .float .f32 0, .float .f32 0, .float .f32 0, .float .f32 0, .float .f32 0, .float .f32 0, .float .f32 0, .float .f32 0, .float .f32 0, .float .f32 0, .float .f32 0, .float .f32 0, .float .f32 0, .float .f32 0, .float .f32 0, .float .f32 0, .float .f32 0, .float .f32 0, .float .f32 0, .float .f32 0, .float .f32 0, .float .f32 0, .float .f32 0, .float .f32 0, .float .f32 0, .float .f32 0, .float .f32 0, .float .f32 0, .float .f32 0, .float .f32 0, .float .f32 0, .float .f32 0, .float .f32 0, .float .f32 0, .float .f32 0, .float .f32 0, .float .f32 0, .float .f32 0, .float .f32 0, .float .f32 0, .float .f32 0, .float .f32 0, .float .f32 0, .float .f32 0, .float .f32 0, .float .f32 0, .float .f32 0, .float .f32 0, .float .f32 0, .float .f32 0, .float .f32 0, .float .f32 0, .float .f32 0, .float .f32 0, .float .f32 0, .float .f32 0, .float .f32 0, .float .f32 0, .float .f32 0, .float .f32 0, .float .f32 0, .float .f32 0, .float .f32 0, .float .f32 0, .float .f32 0, .float .f32 0, .float .f32 0, .float .f32 0, .float .f32 0, .float .f32 0, .float .f32 0, .float .f32 0, .float .f32 0, .float .f32 0, .float .f32 0, .float .f32 0, .float .f32 0, .float .f32 0, .float .f32 0, .float .f32 0, .float .f32 0, .float .f32 0, .float .f32 0, .float .f32 0, .float .f32 0, .float .f32 0, .float .f32 0, .float .f32 0, .float .f32 0, .float .f32 0, .float .f32 0, .float .f32 0, .float .f32 0, .float .f32 0, .float .f32 0, .float .f32 0, .float .f32 0, .float .f32 0, .float .f32 0, .float .f32 0, .float .f32 0, .float .f32 0, .float .f32 0, .float .f32 0, .float .f32 0, .float .f32 0, .float .f32 0, .float .f32 0, .float .f32 0, .float .f32 0, .float .f32 0, .float .f32 0, .float .f32 0, .float .f32 0, .float .f32 0, .float .f32 0, .float .f32 0, .float .f32 0, .float .f32 0, .float .f32 0, .float .f32 0, .float .f32 0, .float .f32 0, .float .f32 0, .float .f32 0, .float .f32 0, .float .f32 0, .float .f32 0, .float .f32 0, .float .f32 0, .float .f32 0, .float .f32 0, .float .f32 0, .float .f32 0, .float .f32 0, .float .f32 0, .float .f32 0, .float .f32 0, .float .f32 0, .float .f32 0, .float .f32 0, .float .f32 0, .int .u64 0, .slice none 0 0], .slice none 0 0]
theorem fnExactGrantInOrder_j0 : (Rows.fnExactGrantInOrderRow.inPlace == Tryz.prog.inPlace 7) = true := by kernel_rfl
theorem fnExactGrantInOrder_j1 : (Rows.fnExactGrantInOrderRow.unfollowed == Tryz.prog.unfollowed 7) = true := by kernel_rfl
theorem fnExactGrantInOrder_j2 : (Rows.fnExactGrantInOrderRow.recurses == Tryz.prog.recurses 7) = true := by kernel_rfl
theorem fnExactGrantInOrder_j3 : (Rows.fnExactGrantInOrderRow.named == Tryz.prog.varsNamed 7) = true := by kernel_rfl
theorem fnExactGrantInOrder_jw : Rows.fnExactGrantInOrderRow.wf (OpenSpec.ofChange Rows.fnExactGrantInOrderSpec) = true := by kernel_rfl
theorem fnExactGrantInOrder_jn : namedTie Tryz.prog Rows.fnExactGrantInOrderRow.named Rows.fnExactGrantInOrderSpec.vars = true := by kernel_rfl
theorem fnExactGrantInOrder_jf : joinedFacts Tryz.prog 7 Tryz.f7 Rows.fnExactGrantInOrderSpec Rows.fnExactGrantInOrderRow = true := by
  unfold joinedFacts
  simp only [Bool.and_eq_true]
  exact ⟨⟨⟨⟨⟨⟨⟨⟨⟨⟨⟨⟨⟨⟨⟨⟨⟨⟨⟨⟨⟨⟨⟨⟨⟨⟨⟨⟨⟨⟨⟨fnExactGrantInOrder_jw, laidOut⟩, (by kernel_rfl)⟩, (by kernel_rfl)⟩, fnExactGrantInOrder_jn⟩, (by kernel_rfl)⟩, (by kernel_rfl)⟩, (by kernel_rfl)⟩, (by kernel_rfl)⟩, fnExactGrantInOrder_j0⟩, fnExactGrantInOrder_j1⟩, fnExactGrantInOrder_j2⟩, fnExactGrantInOrder_j3⟩, (by kernel_rfl)⟩, (by kernel_rfl)⟩, (by kernel_rfl)⟩, (by kernel_rfl)⟩, (by kernel_rfl)⟩, (by kernel_rfl)⟩, (by kernel_rfl)⟩, (by kernel_rfl)⟩, (by kernel_rfl)⟩, (by kernel_rfl)⟩, (by kernel_rfl)⟩, (by kernel_rfl)⟩, seat_me⟩, seat_lf⟩, seat_mk⟩, (by kernel_rfl)⟩, (by kernel_rfl)⟩, (by kernel_rfl)⟩, (by kernel_rfl)⟩
theorem fnExactGrantInOrder_nm : Tryz.pinned.checked.prog.funcNamed Rows.fnExactGrantInOrderRow.func = some 7 := by kernel_rfl
theorem fnExactGrantInOrder_rd : ∀ t ∈ Tryz.f7.params.toList, Tryz.prog.readableRec t = true ∧ t < Tryz.prog.types.size := by rw [Tryz.params7]; exact (by decide +kernel)
theorem fnExactGrantInOrder_ok (os : Os) : Input.okWideB Tryz.checked.prog ((World.doorLaid Tryz.prog 400 os).forCall (fun _ _ => 0) ⟨#[], fnExactGrantInOrder_w, []⟩) 7 ⟨#[], fnExactGrantInOrder_w, []⟩ = true := by kernel_rfl
theorem fnExactGrantInOrder_pb (os : Os) (H : Type) (enc : TypeId × Value → H) : Rows.fnExactGrantInOrderSpec.preB enc Tryz.checked.prog Tryz.f7 [] false ((World.doorLaid Tryz.prog 400 os).forCall (fun _ _ => 0) ⟨#[], fnExactGrantInOrder_w, []⟩).memory fnExactGrantInOrder_w 16 = true := by kernel_rfl
theorem fnExactGrantInOrder_sb (os : Os) (H : Type) (enc : TypeId × Value → H) : Rows.fnExactGrantInOrderSpec.sizedB enc Tryz.checked.prog Tryz.f7 false ((World.doorLaid Tryz.prog 400 os).forCall (fun _ _ => 0) ⟨#[], fnExactGrantInOrder_w, []⟩).memory fnExactGrantInOrder_w 16 = true := by kernel_rfl
theorem fnExactGrantInOrder_sh (os : Os) : ((World.doorLaid Tryz.prog 400 os).forCall (fun _ _ => 0) ⟨#[], fnExactGrantInOrder_w, []⟩).Shaped Tryz.checked.prog := World.shaped_of_B (by kernel_rfl) (by kernel_rfl)
theorem fnExactGrantInOrder_row : Rows.FnExactGrantInOrderSaid :=
  OpenClaim.holds_of_wide 7 Tryz.f7 rfl rfl rfl rfl rfl rfl rfl ⟨rfl, rfl, rfl, rfl, rfl⟩ rfl rfl rfl rfl rfl fnExactGrantInOrder_nm Tryz.func7 fnExactGrantInOrder_jf
    (of_decide_eq_true (by kernel_rfl)) (by unfold Func.isWrapper; first | (rw [if_pos (by decide +kernel)]; kernel_rfl) | (rw [if_neg (by decide +kernel)]; exact ⟨rfl, rfl⟩))
    (fun os started H enc _ => liftTS 7 Tryz.f7 Rows.fnExactGrantInOrderSpec Tryz.func7 rfl rfl
      (fun H ds h => match ds, h with | [d0, d1], _ => rfl)
      fnExactGrantInOrder_rd
      fnExactGrantInOrder_walk os started H enc (by kernel_rfl)
      (witnessT 7 Tryz.f7 Rows.fnExactGrantInOrderSpec fnExactGrantInOrder_w os H enc (fnExactGrantInOrder_sh os) (fnExactGrantInOrder_ok os) (fnExactGrantInOrder_pb os H enc) (fnExactGrantInOrder_sb os H enc)))

set_option maxRecDepth 100000 in
theorem fnExactGrantInOrder_holds : Rows.FnExactGrantInOrderCardSaid :=
  Claim7.holds_tied_plain_at .later [] [.data] true Rows.fnExactGrantInOrderCard.stood.harness Rows.fnExactGrantInOrderCard.stood.looks
    fnExactGrantInOrder_row (fun _ h => by cases h) (by kernel_rfl) (fun _ h => by cases h) fnExactGrantInOrder_row_tie rfl ⟨rfl, rfl⟩ seat_mi (by kernel_rfl)
    (fun f fn hf hfn => by
      obtain rfl : f = 7 := Option.some.inj ((show Tryz.prog.funcNamed "loop.example/g01288/laws.FnExactGrantInOrder" = some 7 by kernel_rfl).symm.trans hf) |>.symm
      obtain rfl : fn = Tryz.f7 := (Option.some.inj (Tryz.func7.symm.trans hfn)).symm
      refine ⟨by kernel_rfl, fun j t ht => ?_⟩
      have hall : Tryz.f7.params.toList.all (fun t => !Tryz.prog.wantsStandIn t) = true := by kernel_rfl
      have hm : t ∈ Tryz.f7.params.toList := Array.mem_toList_iff.2 (Array.mem_of_getElem? ht)
      have h := List.all_eq_true.1 hall t hm
      simp only [Bool.not_eq_true'] at h
      exact h)
    (by kernel_rfl)
#print axioms fnExactGrantInOrder_holds
end Go.Proofs.YtaghnminpfgdcaaGreatDoor
