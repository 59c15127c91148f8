/- The law FnExactAreKept of this commit: for every input the call returns true, and each argument reads afterwards as it read before. Condition: the table of math/bits is as its initialiser lays it (the card ties it to the program's text). -/
import Derived.Test.YtaghnminpfgdcaaGreatDoorLawAreKept
import Derived.Test.YtaghnminpfgdcaaGreatDoorLiftTS
import Derived.Test.YtaghnminpfgdcaaGreatDoorSeat
import Derived.Test.YtaghnminpfgdcaaGreatDoorCards
import Derived.Test.YtaghnminpfgdcaaGreatDoorTie
import Derived.SevenTiedAt
namespace Go.Proofs.YtaghnminpfgdcaaGreatDoor
open Go Go.ChangeShapes Go.WideShapes Go.ChangeAt Go.RowKit Go.Deep
set_option linter.unusedSimpArgs false
set_option linter.unusedVariables false
set_option maxRecDepth 100000
def fnExactAreKept_w : Array Value := #[.agg #[.int .i8 0, .int .i8 0, .float .f32 0, .float .f32 0, .float .f32 0, .float .f32 0, .float .f32 0, .float .f32 0, .float .f32 0, .float .f32 0, .float .f32 0, .float .f32 0, .float .f32 0, .float .f32 0, .float .f32 0, .float .f32 0, .float .f32 0, .float .f32 0, .float .f32 0, .float .f32 0, .float .f32 0, .float .f32 0, .float .f32 0, .float .f32 0, .float .f32 0, .float .f32 0, .float .f32 0, .float .f32 0, .float .f32 0, .float .f32 0, .float .f32 0, .float .f32 0, .float .f32 0, .float .f32 0, .float .f32 0, .float .f32 0, .float .f32 0, .float .f32 0, .float .f32 0, .float .f32 0, .float .f32 0, .float .f32 0, .float .f32 0, .float .f32 0, .float .f32 0, .float .f32 0, .float .f32 0, .float .f32 0, .float .f32 0, .float .f32 0, .float .f32 0, .float .f32 0, .float .f32 0, .float .f32 0, .float .f32 0, .float .f32 0, .float .f32 0, .float .f32 0, .float .f32 0, .float .f32 0, .float .f32 0, .float .f32 0, .float .f32 0, .float .f32 0, .float .f32 0, .float .f32 0, .float .f32 0, .float .f32 0, .float .f32 0, .float .f32 0, .float .f32 0, .float .f32 0, .float .f32 0, .float .f32 0, .float .f32 0, .float .f32 0, .float .f32 0, .float .f32 0, .float .f32 0, .float .f32 0, .float .f32 0, .float .f32 0, .float .f32 0, .float .f32 0, .float .f32 0, .float .f32 0, .float .f32 0, .float .f32 0, .float .f32 0, .float .f32 0, .float .f32 0, .float .f32 0, .float .f32 0, .float .f32 0, .float .f32 0, .float .f32 0, .float .f32 0, .float .f32 0, .float .f32 0, .float .f32 0, .float .f32 0, .float .f32 0, .float .f32 0, .float .f32 0, .float .f32 0, .float .f32 0, .float .f32 0, .float .f32 0, .float .f32 0, .float .f32 0, .float .f32 0, .float .f32 0, .float .f32 0, .float .f32 0, .float .f32 0, .float .f32 0, .float .f32 0, .float .f32 0, .float .f32 0, .float .f32 0, .float .f32 0, .float .f32 0, .float .f32 0, .float .f32 0, .float .f32 0, .float .f32 0, .float .f32 0, .float .f32 0, .float .f32 0, .float .f32 0, .float .f32 0, .float .f32 0, .float .f32 0, .float .f32 0, .float .f32 0, .float .f32 0, .float .f32 0, .float .f32 0, .float .f32 0, .float .f32 0, .float .f32 0, .float .f32 0, .float .f32 0, .float .f32 0, .float .f32 0, .float .f32 0, .float .f32 0, .float .f32 0, .float .f32 0, .float .f32 0, .float .f32 0, .float .f32 0, .float .f32 0, .float .f32 0, .float .f32 0, .float .f32 0, .float .f32 0, .float .f32 0, .float .f32 0, .float .f32 0, .float .f32 0, .float .f32 0, .float .f32 0, .float .f32 0, .float .f32 0, .float .f32 0, .float .f32 0, .float .f32 0, .float .f32 0, .float .f32 0, .float .f32 0, .float .f32 0, .float .f32 0, .float .f32 0, .float .f32 0, .float .f32 0, .float .f32 0, .float .f32 0, .float .f32 0, .float .f32 0, .float .f32 0, .float .f32 0, .float .f32 0, .float .f32 0, .float .f32 0, .float .f32 0, .float .f32 0, .float .f32 0, .float .f32 0, .float .f32 0, .float .f32 0, .float .f32 0, .float .f32 0, .float .f32 0, .int .u64 0, .slice none 0 0], .slice none 0 0]
theorem fnExactAreKept_j0 : (Rows.fnExactAreKeptRow.inPlace == Tryz.prog.inPlace 6) = true := by kernel_rfl
theorem fnExactAreKept_j1 : (Rows.fnExactAreKeptRow.unfollowed == Tryz.prog.unfollowed 6) = true := by kernel_rfl
theorem fnExactAreKept_j2 : (Rows.fnExactAreKeptRow.recurses == Tryz.prog.recurses 6) = true := by kernel_rfl
theorem fnExactAreKept_j3 : (Rows.fnExactAreKeptRow.named == Tryz.prog.varsNamed 6) = true := by kernel_rfl
theorem fnExactAreKept_jw : Rows.fnExactAreKeptRow.wf (OpenSpec.ofChange Rows.fnExactAreKeptSpec) = true := by kernel_rfl
theorem fnExactAreKept_jn : namedTie Tryz.prog Rows.fnExactAreKeptRow.named Rows.fnExactAreKeptSpec.vars = true := by kernel_rfl
theorem fnExactAreKept_jf : joinedFacts Tryz.prog 6 Tryz.f6 Rows.fnExactAreKeptSpec Rows.fnExactAreKeptRow = true := by
  unfold joinedFacts
  simp only [Bool.and_eq_true]
  exact ⟨⟨⟨⟨⟨⟨⟨⟨⟨⟨⟨⟨⟨⟨⟨⟨⟨⟨⟨⟨⟨⟨⟨⟨⟨⟨⟨⟨⟨⟨⟨fnExactAreKept_jw, laidOut⟩, (by kernel_rfl)⟩, (by kernel_rfl)⟩, fnExactAreKept_jn⟩, (by kernel_rfl)⟩, (by kernel_rfl)⟩, (by kernel_rfl)⟩, (by kernel_rfl)⟩, fnExactAreKept_j0⟩, fnExactAreKept_j1⟩, fnExactAreKept_j2⟩, fnExactAreKept_j3⟩, (by kernel_rfl)⟩, (by kernel_rfl)⟩, (by kernel_rfl)⟩, (by kernel_rfl)⟩, (by kernel_rfl)⟩, (by kernel_rfl)⟩, (by kernel_rfl)⟩, (by kernel_rfl)⟩, (by kernel_rfl)⟩, (by kernel_rfl)⟩, (by kernel_rfl)⟩, (by kernel_rfl)⟩, seat_me⟩, seat_lf⟩, seat_mk⟩, (by kernel_rfl)⟩, (by kernel_rfl)⟩, (by kernel_rfl)⟩, (by kernel_rfl)⟩
theorem fnExactAreKept_nm : Tryz.pinned.checked.prog.funcNamed Rows.fnExactAreKeptRow.func = some 6 := by kernel_rfl
theorem fnExactAreKept_rd : ∀ t ∈ Tryz.f6.params.toList, Tryz.prog.readableRec t = true ∧ t < Tryz.prog.types.size := by rw [Tryz.params6]; exact (by decide +kernel)
theorem fnExactAreKept_ok (os : Os) : Input.okWideB Tryz.checked.prog ((World.doorLaid Tryz.prog 400 os).forCall (fun _ _ => 0) ⟨#[], fnExactAreKept_w, []⟩) 6 ⟨#[], fnExactAreKept_w, []⟩ = true := by kernel_rfl
theorem fnExactAreKept_pb (os : Os) (H : Type) (enc : TypeId × Value → H) : Rows.fnExactAreKeptSpec.preB enc Tryz.checked.prog Tryz.f6 [] false ((World.doorLaid Tryz.prog 400 os).forCall (fun _ _ => 0) ⟨#[], fnExactAreKept_w, []⟩).memory fnExactAreKept_w 16 = true := by kernel_rfl
theorem fnExactAreKept_sb (os : Os) (H : Type) (enc : TypeId × Value → H) : Rows.fnExactAreKeptSpec.sizedB enc Tryz.checked.prog Tryz.f6 false ((World.doorLaid Tryz.prog 400 os).forCall (fun _ _ => 0) ⟨#[], fnExactAreKept_w, []⟩).memory fnExactAreKept_w 16 = true := by kernel_rfl
theorem fnExactAreKept_sh (os : Os) : ((World.doorLaid Tryz.prog 400 os).forCall (fun _ _ => 0) ⟨#[], fnExactAreKept_w, []⟩).Shaped Tryz.checked.prog := World.shaped_of_B (by kernel_rfl) (by kernel_rfl)
theorem fnExactAreKept_row : Rows.FnExactAreKeptSaid :=
  OpenClaim.holds_of_wide 6 Tryz.f6 rfl rfl rfl rfl rfl rfl rfl ⟨rfl, rfl, rfl, rfl, rfl⟩ rfl rfl rfl rfl rfl fnExactAreKept_nm Tryz.func6 fnExactAreKept_jf
    (of_decide_eq_true (by kernel_rfl)) (by unfold Func.isWrapper; first | (rw [if_pos (by decide +kernel)]; kernel_rfl) | (rw [if_neg (by decide +kernel)]; exact ⟨rfl, rfl⟩))
    (fun os started H enc _ => liftTS 6 Tryz.f6 Rows.fnExactAreKeptSpec Tryz.func6 rfl rfl
      (fun H ds h => match ds, h with | [d0, d1], _ => rfl)
      fnExactAreKept_rd
      fnExactAreKept_walk os started H enc (by kernel_rfl)
      (witnessT 6 Tryz.f6 Rows.fnExactAreKeptSpec fnExactAreKept_w os H enc (fnExactAreKept_sh os) (fnExactAreKept_ok os) (fnExactAreKept_pb os H enc) (fnExactAreKept_sb os H enc)))

set_option maxRecDepth 100000 in
theorem fnExactAreKept_holds : Rows.FnExactAreKeptCardSaid :=
  Claim7.holds_tied_plain_at .later [] [.data] true Rows.fnExactAreKeptCard.stood.harness Rows.fnExactAreKeptCard.stood.looks
    fnExactAreKept_row (fun _ h => by cases h) (by kernel_rfl) (fun _ h => by cases h) fnExactAreKept_row_tie rfl ⟨rfl, rfl⟩ seat_mi (by kernel_rfl)
    (fun f fn hf hfn => by
      obtain rfl : f = 6 := Option.some.inj ((show Tryz.prog.funcNamed "loop.example/g01288/laws.FnExactAreKept" = some 6 by kernel_rfl).symm.trans hf) |>.symm
      obtain rfl : fn = Tryz.f6 := (Option.some.inj (Tryz.func6.symm.trans hfn)).symm
      refine ⟨by kernel_rfl, fun j t ht => ?_⟩
      have hall : Tryz.f6.params.toList.all (fun t => !Tryz.prog.wantsStandIn t) = true := by kernel_rfl
      have hm : t ∈ Tryz.f6.params.toList := Array.mem_toList_iff.2 (Array.mem_of_getElem? ht)
      have h := List.all_eq_true.1 hall t hm
      simp only [Bool.not_eq_true'] at h
      exact h)
    (by kernel_rfl)
#print axioms fnExactAreKept_holds
end Go.Proofs.YtaghnminpfgdcaaGreatDoor
