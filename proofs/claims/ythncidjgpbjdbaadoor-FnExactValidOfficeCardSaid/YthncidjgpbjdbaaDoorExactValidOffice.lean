/- The law FnExactValidOffice of this commit: for every input the call returns true, and each argument reads afterwards as it read before. Condition: the table of math/bits is as its initialiser lays it (the card ties it to the program's text). -/
import Derived.Test.YthncidjgpbjdbaaDoorLawVO
import Derived.Test.YthncidjgpbjdbaaDoorLiftTS
import Derived.Test.YthncidjgpbjdbaaDoorSeat
import Derived.Test.YthncidjgpbjdbaaDoorCards
import Derived.Test.YthncidjgpbjdbaaDoorTie
import Derived.SevenTiedAt
namespace Go.Proofs.YthncidjgpbjdbaaDoor
open Go Go.ChangeShapes Go.WideShapes Go.ChangeAt Go.RowKit Go.Deep
set_option linter.unusedSimpArgs false
set_option linter.unusedVariables false
set_option maxRecDepth 100000
def fnExactValidOffice_w : Array Value := #[.agg #[.int .i8 0, .int .i8 0, .float .f32 0, .float .f32 0, .float .f32 0, .float .f32 0, .float .f32 0, .float .f32 0, .float .f32 0, .float .f32 0, .float .f32 0, .float .f32 0, .float .f32 0, .float .f32 0, .float .f32 0, .float .f32 0, .float .f32 0, .float .f32 0, .float .f32 0, .float .f32 0, .float .f32 0, .float .f32 0, .float .f32 0, .float .f32 0, .float .f32 0, .float .f32 0, .float .f32 0, .float .f32 0, .float .f32 0, .float .f32 0, .float .f32 0, .float .f32 0, .float .f32 0, .float .f32 0, .float .f32 0, .float .f32 0, .float .f32 0, .float .f32 0, .float .f32 0, .float .f32 0, .float .f32 0, .float .f32 0, .float .f32 0, .float .f32 0, .float .f32 0, .float .f32 0, .float .f32 0, .float .f32 0, .float .f32 0, .float .f32 0, .float .f32 0, .float .f32 0, .float .f32 0, .float .f32 0, .float .f32 0, .float .f32 0, .float .f32 0, .float .f32 0, .float .f32 0, .float .f32 0, .float .f32 0, .float .f32 0, .float .f32 0, .float .f32 0, .float .f32 0, .float .f32 0, .float .f32 0, .float .f32 0, .float .f32 0, .float .f32 0, .float .f32 0, .float .f32 0, .float .f32 0, .float .f32 0, .float .f32 0, .float .f32 0, .float .f32 0, .float .f32 0, .float .f32 0, .float .f32 0, .float .f32 0, .float .f32 0, .float .f32 0, .float .f32 0, .float .f32 0, .float .f32 0, .float .f32 0, .float .f32 0, .float .f32 0, .float .f32 0, .float .f32 0, .float .f32 0, .float .f32 0, .float .f32 0, .float .f32 0, .float .f32 0, .float .f32 0, .float .f32 0, .float .f32 0, .float .f32 0, .float .f32 0, .float .f32 0, .float .f32 0, .float .f32 0, .float .f32 0, .float .f32 0, .float .f32 0, .float .f32 0, .float .f32 0, .float .f32 0, .float .f32 0, .float .f32 0, .float .f32 0, .float .f32 0, .float .f32 0, .float .f32 0, .float .f32 0, .float .f32 0, .float .f32 0, .float .f32 0, .float .f32 0, .float .f32 0, .float .f32 0, .float .f32 0, .float .f32 0, .float .f32 0, .float .f32 0, .float .f32 0, .float .f32 0, .float .f32 0, .float .f32 0, .float .f32 0, .float .f32 0, .float .f32 0, .float .f32 0, .float .f32 0, .float .f32 0, .float .f32 0, .float .f32 0, .float .f32 0, .float .f32 0, .float .f32 0, .float .f32 0, .float .f32 0, .float .f32 0, .float .f32 0, .float .f32 0, .float .f32 0, .float .f32 0, .float .f32 0, .float .f32 0, .float .f32 0, .float .f32 0, .float .f32 0, .float .f32 0, .float .f32 0, .float .f32 0, .float .f32 0, .float .f32 0, .float .f32 0, .float .f32 0, .float .f32 0, .float .f32 0, .float .f32 0, .float .f32 0, .float .f32 0, .float .f32 0, .float .f32 0, .float .f32 0, .float .f32 0, .float .f32 0, .float .f32 0, .float .f32 0, .float .f32 0, .float .f32 0, .float .f32 0, .float .f32 0, .float .f32 0, .float .f32 0, .float .f32 0, .float .f32 0, .float .f32 0, .float .f32 0, .float .f32 0, .float .f32 0, .float .f32 0, .float .f32 0, .float .f32 0, .float .f32 0, .float .f32 0, .float .f32 0, .float .f32 0, .float .f32 0, .float .f32 0, .int .u64 0, .slice none 0 0]]
theorem fnExactValidOffice_j0 : (Rows.fnExactValidOfficeRow.inPlace == Tryd.prog.inPlace 3) = true := by kernel_rfl
theorem fnExactValidOffice_j1 : (Rows.fnExactValidOfficeRow.unfollowed == Tryd.prog.unfollowed 3) = true := by kernel_rfl
theorem fnExactValidOffice_j2 : (Rows.fnExactValidOfficeRow.recurses == Tryd.prog.recurses 3) = true := by kernel_rfl
theorem fnExactValidOffice_j3 : (Rows.fnExactValidOfficeRow.named == Tryd.prog.varsNamed 3) = true := by kernel_rfl
theorem fnExactValidOffice_jw : Rows.fnExactValidOfficeRow.wf (OpenSpec.ofChange Rows.fnExactValidOfficeSpec) = true := by kernel_rfl
theorem fnExactValidOffice_jn : namedTie Tryd.prog Rows.fnExactValidOfficeRow.named Rows.fnExactValidOfficeSpec.vars = true := by kernel_rfl
theorem fnExactValidOffice_jf : joinedFacts Tryd.prog 3 Tryd.f3 Rows.fnExactValidOfficeSpec Rows.fnExactValidOfficeRow = true := by
  unfold joinedFacts
  simp only [Bool.and_eq_true]
  exact ⟨⟨⟨⟨⟨⟨⟨⟨⟨⟨⟨⟨⟨⟨⟨⟨⟨⟨⟨⟨⟨⟨⟨⟨⟨⟨⟨⟨⟨⟨⟨fnExactValidOffice_jw, laidOut⟩, (by kernel_rfl)⟩, (by kernel_rfl)⟩, fnExactValidOffice_jn⟩, (by kernel_rfl)⟩, (by kernel_rfl)⟩, (by kernel_rfl)⟩, (by kernel_rfl)⟩, fnExactValidOffice_j0⟩, fnExactValidOffice_j1⟩, fnExactValidOffice_j2⟩, fnExactValidOffice_j3⟩, (by kernel_rfl)⟩, (by kernel_rfl)⟩, (by kernel_rfl)⟩, (by kernel_rfl)⟩, (by kernel_rfl)⟩, (by kernel_rfl)⟩, (by kernel_rfl)⟩, (by kernel_rfl)⟩, (by kernel_rfl)⟩, (by kernel_rfl)⟩, (by kernel_rfl)⟩, (by kernel_rfl)⟩, seat_me⟩, seat_lf⟩, seat_mk⟩, (by kernel_rfl)⟩, (by kernel_rfl)⟩, (by kernel_rfl)⟩, (by kernel_rfl)⟩
theorem fnExactValidOffice_nm : Tryd.pinned.checked.prog.funcNamed Rows.fnExactValidOfficeRow.func = some 3 := by kernel_rfl
theorem fnExactValidOffice_rd : ∀ t ∈ Tryd.f3.params.toList, Tryd.prog.readableRec t = true ∧ t < Tryd.prog.types.size := by rw [Tryd.params3]; exact (by decide +kernel)
theorem fnExactValidOffice_ok (os : Os) : Input.okWideB Tryd.checked.prog ((World.doorLaid Tryd.prog 400 os).forCall (fun _ _ => 0) ⟨#[], fnExactValidOffice_w, []⟩) 3 ⟨#[], fnExactValidOffice_w, []⟩ = true := by kernel_rfl
theorem fnExactValidOffice_pb (os : Os) (H : Type) (enc : TypeId × Value → H) : Rows.fnExactValidOfficeSpec.preB enc Tryd.checked.prog Tryd.f3 [] false ((World.doorLaid Tryd.prog 400 os).forCall (fun _ _ => 0) ⟨#[], fnExactValidOffice_w, []⟩).memory fnExactValidOffice_w 16 = true := by kernel_rfl
theorem fnExactValidOffice_sb (os : Os) (H : Type) (enc : TypeId × Value → H) : Rows.fnExactValidOfficeSpec.sizedB enc Tryd.checked.prog Tryd.f3 false ((World.doorLaid Tryd.prog 400 os).forCall (fun _ _ => 0) ⟨#[], fnExactValidOffice_w, []⟩).memory fnExactValidOffice_w 16 = true := by kernel_rfl
theorem fnExactValidOffice_sh (os : Os) : ((World.doorLaid Tryd.prog 400 os).forCall (fun _ _ => 0) ⟨#[], fnExactValidOffice_w, []⟩).Shaped Tryd.checked.prog := World.shaped_of_B (by kernel_rfl) (by kernel_rfl)
theorem fnExactValidOffice_row : Rows.FnExactValidOfficeSaid :=
  OpenClaim.holds_of_wide 3 Tryd.f3 rfl rfl rfl rfl rfl rfl rfl ⟨rfl, rfl, rfl, rfl, rfl⟩ rfl rfl rfl rfl rfl fnExactValidOffice_nm Tryd.func3 fnExactValidOffice_jf
    (of_decide_eq_true (by kernel_rfl)) (by unfold Func.isWrapper; first | (rw [if_pos (by decide +kernel)]; kernel_rfl) | (rw [if_neg (by decide +kernel)]; exact ⟨rfl, rfl⟩))
    (fun os started H enc _ => liftTS 3 Tryd.f3 Rows.fnExactValidOfficeSpec Tryd.func3 rfl rfl
      (fun H ds h => match ds, h with | [d0], _ => rfl)
      fnExactValidOffice_rd
      fnExactValidOffice_walk os started H enc (by kernel_rfl)
      (witnessT 3 Tryd.f3 Rows.fnExactValidOfficeSpec fnExactValidOffice_w os H enc (fnExactValidOffice_sh os) (fnExactValidOffice_ok os) (fnExactValidOffice_pb os H enc) (fnExactValidOffice_sb os H enc)))

set_option maxRecDepth 100000 in
theorem fnExactValidOffice_holds : Rows.FnExactValidOfficeCardSaid :=
  Claim7.holds_tied_plain_at .later [] [.data] true Rows.fnExactValidOfficeCard.stood.harness Rows.fnExactValidOfficeCard.stood.looks
    fnExactValidOffice_row (fun _ h => by cases h) (by kernel_rfl) (fun _ h => by cases h) fnExactValidOffice_row_tie rfl ⟨rfl, rfl⟩ seat_mi (by kernel_rfl)
    (fun f fn hf hfn => by
      obtain rfl : f = 3 := Option.some.inj ((show Tryd.prog.funcNamed "loop.example/g01288/laws.FnExactValidOffice" = some 3 by kernel_rfl).symm.trans hf) |>.symm
      obtain rfl : fn = Tryd.f3 := (Option.some.inj (Tryd.func3.symm.trans hfn)).symm
      refine ⟨by kernel_rfl, fun j t ht => ?_⟩
      have hall : Tryd.f3.params.toList.all (fun t => !Tryd.prog.wantsStandIn t) = true := by kernel_rfl
      have hm : t ∈ Tryd.f3.params.toList := Array.mem_toList_iff.2 (Array.mem_of_getElem? ht)
      have h := List.all_eq_true.1 hall t hm
      simp only [Bool.not_eq_true'] at h
      exact h)
    (by kernel_rfl)
#print axioms fnExactValidOffice_holds
end Go.Proofs.YthncidjgpbjdbaaDoor
