/- The law FnExactBesideCell of this commit: for every input the call returns true, and each argument reads afterwards as it read before. Condition: the table of math/bits is as its initialiser lays it (the card ties it to the program's text). -/
import Derived.Test.YtjbldgefabbgpaaDoorLawBesideCell
import Derived.Test.YtjbldgefabbgpaaDoorSeat
import Derived.Test.YtjbldgefabbgpaaDoorCards
import Derived.Test.YtjbldgefabbgpaaDoorTie
import Derived.SevenTiedAt
namespace Go.Proofs.YtjbldgefabbgpaaDoor
open Go.ChangeShapes Go.WideShapes Go.ChangeAt Go.RowKit

set_option maxRecDepth 100000
def fnExactBesideCell_w : Array Value := #[.agg #[.int .i8 0, .int .i8 0, .float .f32 0, .float .f32 0, .float .f32 0, .float .f32 0, .float .f32 0, .float .f32 0, .float .f32 0, .float .f32 0, .float .f32 0, .float .f32 0, .float .f32 0, .float .f32 0, .float .f32 0, .float .f32 0, .float .f32 0, .float .f32 0, .float .f32 0, .float .f32 0, .float .f32 0, .float .f32 0, .float .f32 0, .float .f32 0, .float .f32 0, .float .f32 0, .float .f32 0, .float .f32 0, .float .f32 0, .float .f32 0, .float .f32 0, .float .f32 0, .float .f32 0, .float .f32 0, .float .f32 0, .float .f32 0, .float .f32 0, .float .f32 0, .float .f32 0, .float .f32 0, .float .f32 0, .float .f32 0, .float .f32 0, .float .f32 0, .float .f32 0, .float .f32 0, .float .f32 0, .float .f32 0, .float .f32 0, .float .f32 0, .float .f32 0, .float .f32 0, .float .f32 0, .float .f32 0, .float .f32 0, .float .f32 0, .float .f32 0, .float .f32 0, .float .f32 0, .float .f32 0, .float .f32 0, .float .f32 0, .float .f32 0, .float .f32 0, .float .f32 0, .float .f32 0, .float .f32 0, .float .f32 0, .float .f32 0, .float .f32 0, .float .f32 0, .float .f32 0, .float .f32 0, .float .f32 0, .float .f32 0, .float .f32 0, .float .f32 0, .float .f32 0, .float .f32 0, .float .f32 0, .float .f32 0, .float .f32 0, .float .f32 0, .float .f32 0, .float .f32 0, .float .f32 0, .float .f32 0, .float .f32 0, .float .f32 0, .float .f32 0, .float .f32 0, .float .f32 0, .float .f32 0, .float .f32 0, .float .f32 0, .float .f32 0, .float .f32 0, .float .f32 0, .float .f32 0, .float .f32 0, .float .f32 0, .float .f32 0, .float .f32 0, .float .f32 0, .float .f32 0, .float .f32 0, .float .f32 0, .float .f32 0, .float .f32 0, .float .f32 0, .float .f32 0, .float .f32 0, .float .f32 0, .float .f32 0, .float .f32 0, .float .f32 0, .float .f32 0, .float .f32 0, .float .f32 0, .float .f32 0, .float .f32 0, .float .f32 0, .float .f32 0, .float .f32 0, .float .f32 0, .float .f32 0, .float .f32 0, .float .f32 0, .float .f32 0, .float .f32 0, .float .f32 0, .float .f32 0, .float .f32 0, .float .f32 0, .float .f32 0, .float .f32 0, .float .f32 0, .float .f32 0, .float .f32 0, .float .f32 0, .float .f32 0, .float .f32 0, .float .f32 0, .float .f32 0, .float .f32 0, .float .f32 0, .float .f32 0, .float .f32 0, .float .f32 0, .float .f32 0, .float .f32 0, .float .f32 0, .float .f32 0, .float .f32 0, .float .f32 0, .float .f32 0, .float .f32 0, .float .f32 0, .float .f32 0, .float .f32 0, .float .f32 0, .float .f32 0, .float .f32 0, .float .f32 0, .float .f32 0, .float .f32 0, .float .f32 0, .float .f32 0, .float .f32 0, .float .f32 0, .float .f32 0, .float .f32 0, .float .f32 0, .float .f32 0, .float .f32 0, .float .f32 0, .float .f32 0, .float .f32 0, .float .f32 0, .float .f32 0, .float .f32 0, .float .f32 0, .float .f32 0, .float .f32 0, .float .f32 0, .float .f32 0, .float .f32 0, .float .f32 0, .float .f32 0, .float .f32 0, .float .f32 0, .float .f32 0, .float .f32 0, .float .f32 0, .int .u64 0], .int .i64 0, .int .i64 0]
theorem fnExactBesideCell_j0 : (Rows.fnExactBesideCellRow.inPlace == Tryd.prog.inPlace 4) = true := by kernel_rfl
theorem fnExactBesideCell_j1 : (Rows.fnExactBesideCellRow.unfollowed == Tryd.prog.unfollowed 4) = true := by kernel_rfl
theorem fnExactBesideCell_j2 : (Rows.fnExactBesideCellRow.recurses == Tryd.prog.recurses 4) = true := by kernel_rfl
theorem fnExactBesideCell_j3 : (Rows.fnExactBesideCellRow.named == Tryd.prog.varsNamed 4) = true := by kernel_rfl
theorem fnExactBesideCell_jw : Rows.fnExactBesideCellRow.wf (OpenSpec.ofChange Rows.fnExactBesideCellSpec) = true := by kernel_rfl
theorem fnExactBesideCell_jn : namedTie Tryd.prog Rows.fnExactBesideCellRow.named Rows.fnExactBesideCellSpec.vars = true := by kernel_rfl
theorem fnExactBesideCell_jf : joinedFacts Tryd.prog 4 Tryd.f4 Rows.fnExactBesideCellSpec Rows.fnExactBesideCellRow = true := by
  unfold joinedFacts
  simp only [Bool.and_eq_true]
  exact ⟨⟨⟨⟨⟨⟨⟨⟨⟨⟨⟨⟨⟨⟨⟨⟨⟨⟨⟨⟨⟨⟨⟨⟨⟨⟨⟨⟨⟨⟨⟨fnExactBesideCell_jw, laidOut⟩, (by kernel_rfl)⟩, (by kernel_rfl)⟩, fnExactBesideCell_jn⟩, (by kernel_rfl)⟩, (by kernel_rfl)⟩, (by kernel_rfl)⟩, (by kernel_rfl)⟩, fnExactBesideCell_j0⟩, fnExactBesideCell_j1⟩, fnExactBesideCell_j2⟩, fnExactBesideCell_j3⟩, (by kernel_rfl)⟩, (by kernel_rfl)⟩, (by kernel_rfl)⟩, (by kernel_rfl)⟩, (by kernel_rfl)⟩, (by kernel_rfl)⟩, (by kernel_rfl)⟩, (by kernel_rfl)⟩, (by kernel_rfl)⟩, (by kernel_rfl)⟩, (by kernel_rfl)⟩, (by kernel_rfl)⟩, seat_me⟩, seat_lf⟩, seat_mk⟩, (by kernel_rfl)⟩, (by kernel_rfl)⟩, (by kernel_rfl)⟩, (by kernel_rfl)⟩
theorem fnExactBesideCell_nm : Tryd.pinned.checked.prog.funcNamed Rows.fnExactBesideCellRow.func = some 4 := by kernel_rfl
theorem fnExactBesideCell_rd : ∀ t ∈ Tryd.f4.params.toList, Tryd.prog.readableRec t = true ∧ t < Tryd.prog.types.size := by rw [Tryd.params4]; exact (by decide +kernel)
theorem fnExactBesideCell_ok (os : Os) : Input.okWideB Tryd.checked.prog ((World.doorLaid Tryd.prog 400 os).forCall (fun _ _ => 0) ⟨#[], fnExactBesideCell_w, []⟩) 4 ⟨#[], fnExactBesideCell_w, []⟩ = true := by kernel_rfl
theorem fnExactBesideCell_pb (os : Os) (H : Type) (enc : TypeId × Value → H) : Rows.fnExactBesideCellSpec.preB enc Tryd.checked.prog Tryd.f4 [] false ((World.doorLaid Tryd.prog 400 os).forCall (fun _ _ => 0) ⟨#[], fnExactBesideCell_w, []⟩).memory fnExactBesideCell_w 16 = true := by kernel_rfl
theorem fnExactBesideCell_sb (os : Os) (H : Type) (enc : TypeId × Value → H) : Rows.fnExactBesideCellSpec.sizedB enc Tryd.checked.prog Tryd.f4 false ((World.doorLaid Tryd.prog 400 os).forCall (fun _ _ => 0) ⟨#[], fnExactBesideCell_w, []⟩).memory fnExactBesideCell_w 16 = true := by kernel_rfl
theorem fnExactBesideCell_sh (os : Os) : ((World.doorLaid Tryd.prog 400 os).forCall (fun _ _ => 0) ⟨#[], fnExactBesideCell_w, []⟩).Shaped Tryd.checked.prog := World.shaped_of_B (by kernel_rfl) (by kernel_rfl)
theorem fnExactBesideCell_row : Rows.FnExactBesideCellSaid :=
  OpenClaim.holds_of_wide 4 Tryd.f4 rfl rfl rfl rfl rfl rfl rfl ⟨rfl, rfl, rfl, rfl, rfl⟩ rfl rfl rfl rfl rfl fnExactBesideCell_nm Tryd.func4 fnExactBesideCell_jf
    (of_decide_eq_true (by kernel_rfl)) (by unfold Func.isWrapper; first | (rw [if_pos (by decide +kernel)]; kernel_rfl) | (rw [if_neg (by decide +kernel)]; exact ⟨rfl, rfl⟩))
    (fun os started H enc _ => liftT 4 Tryd.f4 Rows.fnExactBesideCellSpec Tryd.func4 rfl rfl
      (fun H ds h => match ds, h with | [d0, d1, d2], _ => rfl)
      fnExactBesideCell_rd
      fnExactBesideCell_walk os started H enc (by kernel_rfl)
      (witnessT 4 Tryd.f4 Rows.fnExactBesideCellSpec fnExactBesideCell_w os H enc (fnExactBesideCell_sh os) (fnExactBesideCell_ok os) (fnExactBesideCell_pb os H enc) (fnExactBesideCell_sb os H enc)))

set_option maxRecDepth 100000 in
theorem fnExactBesideCell_holds : Rows.FnExactBesideCellCardSaid :=
  Claim7.holds_tied_plain_at .later [] [.data] true Rows.fnExactBesideCellCard.stood.harness Rows.fnExactBesideCellCard.stood.looks
    fnExactBesideCell_row (fun _ h => by cases h) (by kernel_rfl) (fun _ h => by cases h) fnExactBesideCell_row_tie rfl ⟨rfl, rfl⟩ seat_mi (by kernel_rfl)
    (fun f fn hf hfn => by
      obtain rfl : f = 4 := Option.some.inj ((show Tryd.prog.funcNamed "loop.example/g01288/laws.FnExactBesideCell" = some 4 by kernel_rfl).symm.trans hf) |>.symm
      obtain rfl : fn = Tryd.f4 := (Option.some.inj (Tryd.func4.symm.trans hfn)).symm
      refine ⟨by kernel_rfl, fun j t ht => ?_⟩
      have hall : Tryd.f4.params.toList.all (fun t => !Tryd.prog.wantsStandIn t) = true := by kernel_rfl
      have hm : t ∈ Tryd.f4.params.toList := Array.mem_toList_iff.2 (Array.mem_of_getElem? ht)
      have h := List.all_eq_true.1 hall t hm
      simp only [Bool.not_eq_true'] at h
      exact h)
    (by kernel_rfl)
#print axioms fnExactBesideCell_holds
end Go.Proofs.YtjbldgefabbgpaaDoor
