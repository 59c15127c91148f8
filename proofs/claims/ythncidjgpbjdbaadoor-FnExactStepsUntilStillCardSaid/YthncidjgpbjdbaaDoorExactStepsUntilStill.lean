/- The law FnExactStepsUntilStill of this commit: for every input the call returns true, and each argument reads afterwards as it read before. Condition: the table of math/bits is as its initialiser lays it (the card ties it to the program's text). -/
import Derived.Test.YthncidjgpbjdbaaDoorLawStepsUntilStill
import Derived.Test.YthncidjgpbjdbaaDoorSeat
import Derived.Test.YthncidjgpbjdbaaDoorCards
import Derived.Test.YthncidjgpbjdbaaDoorTie
import Derived.SevenTiedAt
namespace Go.Proofs.YthncidjgpbjdbaaDoor
open Go.ChangeShapes Go.WideShapes Go.ChangeAt Go.RowKit

set_option maxRecDepth 100000
def fnExactStepsUntilStill_w : Array Value := #[.agg #[.int .i8 0, .int .i8 0, .float .f32 0, .float .f32 0, .float .f32 0, .float .f32 0, .float .f32 0, .float .f32 0, .float .f32 0, .float .f32 0, .float .f32 0, .float .f32 0, .float .f32 0, .float .f32 0, .float .f32 0, .float .f32 0, .float .f32 0, .float .f32 0, .float .f32 0, .float .f32 0, .float .f32 0, .float .f32 0, .float .f32 0, .float .f32 0, .float .f32 0, .float .f32 0, .float .f32 0, .float .f32 0, .float .f32 0, .float .f32 0, .float .f32 0, .float .f32 0, .float .f32 0, .float .f32 0, .float .f32 0, .float .f32 0, .float .f32 0, .float .f32 0, .float .f32 0, .float .f32 0, .float .f32 0, .float .f32 0, .float .f32 0, .float .f32 0, .float .f32 0, .float .f32 0, .float .f32 0, .float .f32 0, .float .f32 0, .float .f32 0, .float .f32 0, .float .f32 0, .float .f32 0, .float .f32 0, .float .f32 0, .float .f32 0, .float .f32 0, .float .f32 0, .float .f32 0, .float .f32 0, .float .f32 0, .float .f32 0, .float .f32 0, .float .f32 0, .float .f32 0, .float .f32 0, .float .f32 0, .float .f32 0, .float .f32 0, .float .f32 0, .float .f32 0, .float .f32 0, .float .f32 0, .float .f32 0, .float .f32 0, .float .f32 0, .float .f32 0, .float .f32 0, .float .f32 0, .float .f32 0, .float .f32 0, .float .f32 0, .float .f32 0, .float .f32 0, .float .f32 0, .float .f32 0, .float .f32 0, .float .f32 0, .float .f32 0, .float .f32 0, .float .f32 0, .float .f32 0, .float .f32 0, .float .f32 0, .float .f32 0, .float .f32 0, .float .f32 0, .float .f32 0, .float .f32 0, .float .f32 0, .float .f32 0, .float .f32 0, .float .f32 0, .float .f32 0, .float .f32 0, .float .f32 0, .float .f32 0, .float .f32 0, .float .f32 0, .float .f32 0, .float .f32 0, .float .f32 0, .float .f32 0, .float .f32 0, .float .f32 0, .float .f32 0, .float .f32 0, .float .f32 0, .float .f32 0, .float .f32 0, .float .f32 0, .float .f32 0, .float .f32 0, .float .f32 0, .float .f32 0, .float .f32 0, .float .f32 0, .float .f32 0, .float .f32 0, .float .f32 0, .float .f32 0, .float .f32 0, .float .f32 0, .float .f32 0, .float .f32 0, .float .f32 0, .float .f32 0, .float .f32 0, .float .f32 0, .float .f32 0, .float .f32 0, .float .f32 0, .float .f32 0, .float .f32 0, .float .f32 0, .float .f32 0, .float .f32 0, .float .f32 0, .float .f32 0, .float .f32 0, .float .f32 0, .float .f32 0, .float .f32 0, .float .f32 0, .float .f32 0, .float .f32 0, .float .f32 0, .float .f32 0, .float .f32 0, .float .f32 0, .float .f32 0, .float .f32 0, .float .f32 0, .float .f32 0, .float .f32 0, .float .f32 0, .float .f32 0, .float .f32 0, .float .f32 0, .float .f32 0, .float .f32 0, .float .f32 0, .float .f32 0, .float .f32 0, .float .f32 0, .float .f32 0, .float .f32 0, .float .f32 0, .float .f32 0, .float .f32 0, .float .f32 0, .float .f32 0, .float .f32 0, .float .f32 0, .float .f32 0, .float .f32 0, .float .f32 0, .float .f32 0, .float .f32 0, .float .f32 0, .float .f32 0, .float .f32 0, .float .f32 0, .float .f32 0, .int .u64 0], .float .f32 0, .float .f32 0, .int .i64 0]
theorem fnExactStepsUntilStill_j0 : (Rows.fnExactStepsUntilStillRow.inPlace == Tryd.prog.inPlace 12) = true := by kernel_rfl
theorem fnExactStepsUntilStill_j1 : (Rows.fnExactStepsUntilStillRow.unfollowed == Tryd.prog.unfollowed 12) = true := by kernel_rfl
theorem fnExactStepsUntilStill_j2 : (Rows.fnExactStepsUntilStillRow.recurses == Tryd.prog.recurses 12) = true := by kernel_rfl
theorem fnExactStepsUntilStill_j3 : (Rows.fnExactStepsUntilStillRow.named == Tryd.prog.varsNamed 12) = true := by kernel_rfl
theorem fnExactStepsUntilStill_jw : Rows.fnExactStepsUntilStillRow.wf (OpenSpec.ofChange Rows.fnExactStepsUntilStillSpec) = true := by kernel_rfl
theorem fnExactStepsUntilStill_jn : namedTie Tryd.prog Rows.fnExactStepsUntilStillRow.named Rows.fnExactStepsUntilStillSpec.vars = true := by kernel_rfl
theorem fnExactStepsUntilStill_jf : joinedFacts Tryd.prog 12 Tryd.f12 Rows.fnExactStepsUntilStillSpec Rows.fnExactStepsUntilStillRow = true := by
  unfold joinedFacts
  simp only [Bool.and_eq_true]
  exact ⟨⟨⟨⟨⟨⟨⟨⟨⟨⟨⟨⟨⟨⟨⟨⟨⟨⟨⟨⟨⟨⟨⟨⟨⟨⟨⟨⟨⟨⟨⟨fnExactStepsUntilStill_jw, laidOut⟩, (by kernel_rfl)⟩, (by kernel_rfl)⟩, fnExactStepsUntilStill_jn⟩, (by kernel_rfl)⟩, (by kernel_rfl)⟩, (by kernel_rfl)⟩, (by kernel_rfl)⟩, fnExactStepsUntilStill_j0⟩, fnExactStepsUntilStill_j1⟩, fnExactStepsUntilStill_j2⟩, fnExactStepsUntilStill_j3⟩, (by kernel_rfl)⟩, (by kernel_rfl)⟩, (by kernel_rfl)⟩, (by kernel_rfl)⟩, (by kernel_rfl)⟩, (by kernel_rfl)⟩, (by kernel_rfl)⟩, (by kernel_rfl)⟩, (by kernel_rfl)⟩, (by kernel_rfl)⟩, (by kernel_rfl)⟩, (by kernel_rfl)⟩, seat_me⟩, seat_lf⟩, seat_mk⟩, (by kernel_rfl)⟩, (by kernel_rfl)⟩, (by kernel_rfl)⟩, (by kernel_rfl)⟩
theorem fnExactStepsUntilStill_nm : Tryd.pinned.checked.prog.funcNamed Rows.fnExactStepsUntilStillRow.func = some 12 := by kernel_rfl
theorem fnExactStepsUntilStill_rd : ∀ t ∈ Tryd.f12.params.toList, Tryd.prog.readableRec t = true ∧ t < Tryd.prog.types.size := by rw [Tryd.params12]; exact (by decide +kernel)
theorem fnExactStepsUntilStill_ok (os : Os) : Input.okWideB Tryd.checked.prog ((World.doorLaid Tryd.prog 400 os).forCall (fun _ _ => 0) ⟨#[], fnExactStepsUntilStill_w, []⟩) 12 ⟨#[], fnExactStepsUntilStill_w, []⟩ = true := by kernel_rfl
theorem fnExactStepsUntilStill_pb (os : Os) (H : Type) (enc : TypeId × Value → H) : Rows.fnExactStepsUntilStillSpec.preB enc Tryd.checked.prog Tryd.f12 [] false ((World.doorLaid Tryd.prog 400 os).forCall (fun _ _ => 0) ⟨#[], fnExactStepsUntilStill_w, []⟩).memory fnExactStepsUntilStill_w 16 = true := by kernel_rfl
theorem fnExactStepsUntilStill_sb (os : Os) (H : Type) (enc : TypeId × Value → H) : Rows.fnExactStepsUntilStillSpec.sizedB enc Tryd.checked.prog Tryd.f12 false ((World.doorLaid Tryd.prog 400 os).forCall (fun _ _ => 0) ⟨#[], fnExactStepsUntilStill_w, []⟩).memory fnExactStepsUntilStill_w 16 = true := by kernel_rfl
theorem fnExactStepsUntilStill_sh (os : Os) : ((World.doorLaid Tryd.prog 400 os).forCall (fun _ _ => 0) ⟨#[], fnExactStepsUntilStill_w, []⟩).Shaped Tryd.checked.prog := World.shaped_of_B (by kernel_rfl) (by kernel_rfl)
theorem fnExactStepsUntilStill_row : Rows.FnExactStepsUntilStillSaid :=
  OpenClaim.holds_of_wide 12 Tryd.f12 rfl rfl rfl rfl rfl rfl rfl ⟨rfl, rfl, rfl, rfl, rfl⟩ rfl rfl rfl rfl rfl fnExactStepsUntilStill_nm Tryd.func12 fnExactStepsUntilStill_jf
    (of_decide_eq_true (by kernel_rfl)) (by unfold Func.isWrapper; first | (rw [if_pos (by decide +kernel)]; kernel_rfl) | (rw [if_neg (by decide +kernel)]; exact ⟨rfl, rfl⟩))
    (fun os started H enc _ => liftT 12 Tryd.f12 Rows.fnExactStepsUntilStillSpec Tryd.func12 rfl rfl
      (fun H ds h => match ds, h with | [d0, d1, d2, d3], _ => rfl)
      fnExactStepsUntilStill_rd
      fnExactStepsUntilStill_walk os started H enc (by kernel_rfl)
      (witnessT 12 Tryd.f12 Rows.fnExactStepsUntilStillSpec fnExactStepsUntilStill_w os H enc (fnExactStepsUntilStill_sh os) (fnExactStepsUntilStill_ok os) (fnExactStepsUntilStill_pb os H enc) (fnExactStepsUntilStill_sb os H enc)))

set_option maxRecDepth 100000 in
theorem fnExactStepsUntilStill_holds : Rows.FnExactStepsUntilStillCardSaid :=
  Claim7.holds_tied_plain_at .later [] [.data] true Rows.fnExactStepsUntilStillCard.stood.harness Rows.fnExactStepsUntilStillCard.stood.looks
    fnExactStepsUntilStill_row (fun _ h => by cases h) (by kernel_rfl) (fun _ h => by cases h) fnExactStepsUntilStill_row_tie rfl ⟨rfl, rfl⟩ seat_mi (by kernel_rfl)
    (fun f fn hf hfn => by
      obtain rfl : f = 12 := Option.some.inj ((show Tryd.prog.funcNamed "loop.example/g01288/laws.FnExactStepsUntilStill" = some 12 by kernel_rfl).symm.trans hf) |>.symm
      obtain rfl : fn = Tryd.f12 := (Option.some.inj (Tryd.func12.symm.trans hfn)).symm
      refine ⟨by kernel_rfl, fun j t ht => ?_⟩
      have hall : Tryd.f12.params.toList.all (fun t => !Tryd.prog.wantsStandIn t) = true := by kernel_rfl
      have hm : t ∈ Tryd.f12.params.toList := Array.mem_toList_iff.2 (Array.mem_of_getElem? ht)
      have h := List.all_eq_true.1 hall t hm
      simp only [Bool.not_eq_true'] at h
      exact h)
    (by kernel_rfl)
#print axioms fnExactStepsUntilStill_holds
end Go.Proofs.YthncidjgpbjdbaaDoor
