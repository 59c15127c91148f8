/- The law FnExactGreatestPercent of this commit: for every input the call returns true, and each argument reads afterwards as it read before. Condition: the table of math/bits is as its initialiser lays it (the card ties it to the program's text). -/
import Derived.Test.YtaghnminpfgdcaaGreatDoorLawGreatestPercent
import Derived.Test.YtaghnminpfgdcaaGreatDoorLiftTS
import Derived.Test.YtaghnminpfgdcaaGreatDoorSeat
import Derived.Test.YtaghnminpfgdcaaGreatDoorCards
import Derived.Test.YtaghnminpfgdcaaGreatDoorTie
import Derived.SevenTiedAt
namespace Go.Proofs.YtaghnminpfgdcaaGreatDoor
open Go Go.ChangeShapes Go.WideShapes Go.ChangeAt Go.RowKit Go.Deep
set_option linter.unusedSimpArgs false
set_option linter.unusedVariables false
set_option maxRecDepth 100000
def fnExactGreatestPercent_w : Array Value := #[.agg #[.int .i8 0, .int .i8 0, .float .f32 0, .float .f32 0, .float .f32 0, .float .f32 0, .float .f32 0, .float .f32 0, .float .f32 0, .float .f32 0, .float .f32 0, .float .f32 0, .float .f32 0, .float .f32 0, .float .f32 0, .float .f32 0, .float .f32 0, .float .f32 0, .float .f32 0, .float .f32 0, .float .f32 0, .float .f32 0, .float .f32 0, .float .f32 0, .float .f32 0, .float .f32 0, .float .f32 0, .float .f32 0, .float .f32 0, .float .f32 0, .float .f32 0, .float .f32 0, .float .f32 0, .float .f32 0, .float .f32 0, .float .f32 0, .float .f32 0, .float .f32 0, .float .f32 0, .float .f32 0, .float .f32 0, .float .f32 0, .float .f32 0, .float .f32 0, .float .f32 0, .float .f32 0, .float .f32 0, .float .f32 0, .float .f32 0, .float .f32 0, .float .f32 0, .float .f32 0, .float .f32 0, .float .f32 0, .float .f32 0, .float .f32 0, .float .f32 0, .float .f32 0, .float .f32 0, .float .f32 0, .float .f32 0, .float .f32 0, .float .f32 0, .float .f32 0, .float .f32 0, .float .f32 0, .float .f32 0, .float .f32 0, .float .f32 0, .float .f32 0, .float .f32 0, .float .f32 0, .float .f32 0, .float .f32 0, .float .f32 0, .float .f32 0, .float .f32 0, .float .f32 0, .float .f32 0, .float .f32 0, .float .f32 0, .float .f32 0, .float .f32 0, .float .f32 0, .float .f32 0, .float .f32 0, .float .f32 0, .float .f32 0, .float .f32 0, .float .f32 0, .float .f32 0, .float .f32 0, .float .f32 0, .float .f32 0, .float .f32 0, .float .f32 0, .float .f32 0, .float .f32 0, .float .f32 0, .float .f32 0, .float .f32 0, .float .f32 0, .float .f32 0, .float .f32 0, .float .f32 0, .float .f32 0, .float .f32 0, .float .f32 0, .float .f32 0, .float .f32 0, .float .f32 0, .float .f32 0, .float .f32 0, .float .f32 0, .float .f32 0, .float .f32 0, .float .f32 0, .float .f32 0, .float .f32 0, .float .f32 0, .float .f32 0, .float .f32 0, .float .f32 0, .float .f32 0, .float .f32 0, .float .f32 0, .float .f32 0, .float .f32 0, .float .f32 0, .float .f32 0, .float .f32 0, .float .f32 0, .float .f32 0, .float .f32 0, .float .f32 0, .float .f32 0, .float .f32 0, .float .f32 0, .float .f32 0, .float .f32 0, .float .f32 0, .float .f32 0, .float .f32 0, .float .f32 0, .float .f32 0, .float .f32 0, .float .f32 0, .float .f32 0, .float .f32 0, .float .f32 0, .float .f32 0, .float .f32 0, .float .f32 0, .float .f32 0, .float .f32 0, .float .f32 0, .float .f32 0, .float .f32 0, .float .f32 0, .float .f32 0, .float .f32 0, .float .f32 0, .float .f32 0, .float .f32 0, .float .f32 0, .float .f32 0, .float .f32 0, .float .f32 0, .float .f32 0, .float .f32 0, .float .f32 0, .float .f32 0, .float .f32 0, .float .f32 0, .float .f32 0, .float .f32 0, .float .f32 0, .float .f32 0, .float .f32 0, .float .f32 0, .float .f32 0, .float .f32 0, .float .f32 0, .float .f32 0, .float .f32 0, .float .f32 0, .float .f32 0, .float .f32 0, .float .f32 0, .float .f32 0, .float .f32 0, .float .f32 0, .float .f32 0, .float .f32 0, .int .u64 0, .slice none 0 0], .slice none 0 0]
theorem fnExactGreatestPercent_j0 : (Rows.fnExactGreatestPercentRow.inPlace == Tryz.prog.inPlace 11) = true := by kernel_rfl
theorem fnExactGreatestPercent_j1 : (Rows.fnExactGreatestPercentRow.unfollowed == Tryz.prog.unfollowed 11) = true := by kernel_rfl
theorem fnExactGreatestPercent_j2 : (Rows.fnExactGreatestPercentRow.recurses == Tryz.prog.recurses 11) = true := by kernel_rfl
theorem fnExactGreatestPercent_j3 : (Rows.fnExactGreatestPercentRow.named == Tryz.prog.varsNamed 11) = true := by kernel_rfl
theorem fnExactGreatestPercent_jw : Rows.fnExactGreatestPercentRow.wf (OpenSpec.ofChange Rows.fnExactGreatestPercentSpec) = true := by kernel_rfl
theorem fnExactGreatestPercent_jn : namedTie Tryz.prog Rows.fnExactGreatestPercentRow.named Rows.fnExactGreatestPercentSpec.vars = true := by kernel_rfl
theorem fnExactGreatestPercent_jf : joinedFacts Tryz.prog 11 Tryz.f11 Rows.fnExactGreatestPercentSpec Rows.fnExactGreatestPercentRow = true := by
  unfold joinedFacts
  simp only [Bool.and_eq_true]
  exact ⟨⟨⟨⟨⟨⟨⟨⟨⟨⟨⟨⟨⟨⟨⟨⟨⟨⟨⟨⟨⟨⟨⟨⟨⟨⟨⟨⟨⟨⟨⟨fnExactGreatestPercent_jw, laidOut⟩, (by kernel_rfl)⟩, (by kernel_rfl)⟩, fnExactGreatestPercent_jn⟩, (by kernel_rfl)⟩, (by kernel_rfl)⟩, (by kernel_rfl)⟩, (by kernel_rfl)⟩, fnExactGreatestPercent_j0⟩, fnExactGreatestPercent_j1⟩, fnExactGreatestPercent_j2⟩, fnExactGreatestPercent_j3⟩, (by kernel_rfl)⟩, (by kernel_rfl)⟩, (by kernel_rfl)⟩, (by kernel_rfl)⟩, (by kernel_rfl)⟩, (by kernel_rfl)⟩, (by kernel_rfl)⟩, (by kernel_rfl)⟩, (by kernel_rfl)⟩, (by kernel_rfl)⟩, (by kernel_rfl)⟩, (by kernel_rfl)⟩, seat_me⟩, seat_lf⟩, seat_mk⟩, (by kernel_rfl)⟩, (by kernel_rfl)⟩, (by kernel_rfl)⟩, (by kernel_rfl)⟩
theorem fnExactGreatestPercent_nm : Tryz.pinned.checked.prog.funcNamed Rows.fnExactGreatestPercentRow.func = some 11 := by kernel_rfl
theorem fnExactGreatestPercent_rd : ∀ t ∈ Tryz.f11.params.toList, Tryz.prog.readableRec t = true ∧ t < Tryz.prog.types.size := by rw [Tryz.params11]; exact (by decide +kernel)
theorem fnExactGreatestPercent_ok (os : Os) : Input.okWideB Tryz.checked.prog ((World.doorLaid Tryz.prog 400 os).forCall (fun _ _ => 0) ⟨#[], fnExactGreatestPercent_w, []⟩) 11 ⟨#[], fnExactGreatestPercent_w, []⟩ = true := by kernel_rfl
theorem fnExactGreatestPercent_pb (os : Os) (H : Type) (enc : TypeId × Value → H) : Rows.fnExactGreatestPercentSpec.preB enc Tryz.checked.prog Tryz.f11 [] false ((World.doorLaid Tryz.prog 400 os).forCall (fun _ _ => 0) ⟨#[], fnExactGreatestPercent_w, []⟩).memory fnExactGreatestPercent_w 16 = true := by kernel_rfl
theorem fnExactGreatestPercent_sb (os : Os) (H : Type) (enc : TypeId × Value → H) : Rows.fnExactGreatestPercentSpec.sizedB enc Tryz.checked.prog Tryz.f11 false ((World.doorLaid Tryz.prog 400 os).forCall (fun _ _ => 0) ⟨#[], fnExactGreatestPercent_w, []⟩).memory fnExactGreatestPercent_w 16 = true := by kernel_rfl
theorem fnExactGreatestPercent_sh (os : Os) : ((World.doorLaid Tryz.prog 400 os).forCall (fun _ _ => 0) ⟨#[], fnExactGreatestPercent_w, []⟩).Shaped Tryz.checked.prog := World.shaped_of_B (by kernel_rfl) (by kernel_rfl)
theorem fnExactGreatestPercent_row : Rows.FnExactGreatestPercentSaid :=
  OpenClaim.holds_of_wide 11 Tryz.f11 rfl rfl rfl rfl rfl rfl rfl ⟨rfl, rfl, rfl, rfl, rfl⟩ rfl rfl rfl rfl rfl fnExactGreatestPercent_nm Tryz.func11 fnExactGreatestPercent_jf
    (of_decide_eq_true (by kernel_rfl)) (by unfold Func.isWrapper; first | (rw [if_pos (by decide +kernel)]; kernel_rfl) | (rw [if_neg (by decide +kernel)]; exact ⟨rfl, rfl⟩))
    (fun os started H enc _ => liftTS 11 Tryz.f11 Rows.fnExactGreatestPercentSpec Tryz.func11 rfl rfl
      (fun H ds h => match ds, h with | [d0, d1], _ => rfl)
      fnExactGreatestPercent_rd
      fnExactGreatestPercent_walk os started H enc (by kernel_rfl)
      (witnessT 11 Tryz.f11 Rows.fnExactGreatestPercentSpec fnExactGreatestPercent_w os H enc (fnExactGreatestPercent_sh os) (fnExactGreatestPercent_ok os) (fnExactGreatestPercent_pb os H enc) (fnExactGreatestPercent_sb os H enc)))

set_option maxRecDepth 100000 in
theorem fnExactGreatestPercent_holds : Rows.FnExactGreatestPercentCardSaid :=
  Claim7.holds_tied_plain_at .later [] [.data] true Rows.fnExactGreatestPercentCard.stood.harness Rows.fnExactGreatestPercentCard.stood.looks
    fnExactGreatestPercent_row (fun _ h => by cases h) (by kernel_rfl) (fun _ h => by cases h) fnExactGreatestPercent_row_tie rfl ⟨rfl, rfl⟩ seat_mi (by kernel_rfl)
    (fun f fn hf hfn => by
      obtain rfl : f = 11 := Option.some.inj ((show Tryz.prog.funcNamed "loop.example/g01288/laws.FnExactGreatestPercent" = some 11 by kernel_rfl).symm.trans hf) |>.symm
      obtain rfl : fn = Tryz.f11 := (Option.some.inj (Tryz.func11.symm.trans hfn)).symm
      refine ⟨by kernel_rfl, fun j t ht => ?_⟩
      have hall : Tryz.f11.params.toList.all (fun t => !Tryz.prog.wantsStandIn t) = true := by kernel_rfl
      have hm : t ∈ Tryz.f11.params.toList := Array.mem_toList_iff.2 (Array.mem_of_getElem? ht)
      have h := List.all_eq_true.1 hall t hm
      simp only [Bool.not_eq_true'] at h
      exact h)
    (by kernel_rfl)
#print axioms fnExactGreatestPercent_holds
end Go.Proofs.YtaghnminpfgdcaaGreatDoor
