/- The law FnExactFlowFrom of this commit: for every input the call returns true, and each argument reads afterwards as it read before. Condition: the table of math/bits is as its initialiser lays it (the card ties it to the program's text). -/
import Derived.Test.YtjbldgefabbgpaaDoorLawFlowFrom
import Derived.Test.YtjbldgefabbgpaaDoorSeat
import Derived.Test.YtjbldgefabbgpaaDoorCards
import Derived.Test.YtjbldgefabbgpaaDoorTie
import Derived.SevenTiedAt
namespace Go.Proofs.YtjbldgefabbgpaaDoor
open Go.ChangeShapes Go.WideShapes Go.ChangeAt Go.RowKit

set_option maxRecDepth 100000
def fnExactFlowFrom_w : Array Value := #[.agg #[.int .i8 0, .int .i8 0, .float .f32 0, .float .f32 0, .float .f32 0, .float .f32 0, .float .f32 0, .float .f32 0, .float .f32 0, .float .f32 0, .float .f32 0, .float .f32 0, .float .f32 0, .float .f32 0, .float .f32 0, .float .f32 0, .float .f32 0, .float .f32 0, .float .f32 0, .float .f32 0, .float .f32 0, .float .f32 0, .float .f32 0, .float .f32 0, .float .f32 0, .float .f32 0, .float .f32 0, .float .f32 0, .float .f32 0, .float .f32 0, .float .f32 0, .float .f32 0, .float .f32 0, .float .f32 0, .float .f32 0, .float .f32 0, .float .f32 0, .float .f32 0, .float .f32 0, .float .f32 0, .float .f32 0, .float .f32 0, .float .f32 0, .float .f32 0, .float .f32 0, .float .f32 0, .float .f32 0, .float .f32 0, .float .f32 0, .float .f32 0, .float .f32 0, .float .f32 0, .float .f32 0, .float .f32 0, .float .f32 0, .float .f32 0, .float .f32 0, .float .f32 0, .float .f32 0, .float .f32 0, .float .f32 0, .float .f32 0, .float .f32 0, .float .f32 0, .float .f32 0, .float .f32 0, .float .f32 0, .float .f32 0, .float .f32 0, .float .f32 0, .float .f32 0, .float .f32 0, .float .f32 0, .float .f32 0, .float .f32 0, .float .f32 0, .float .f32 0, .float .f32 0, .float .f32 0, .float .f32 0, .float .f32 0, .float .f32 0, .float .f32 0, .float .f32 0, .float .f32 0, .float .f32 0, .float .f32 0, .float .f32 0, .float .f32 0, .float .f32 0, .float .f32 0, .float .f32 0, .float .f32 0, .float .f32 0, .float .f32 0, .float .f32 0, .float .f32 0, .float .f32 0, .float .f32 0, .float .f32 0, .float .f32 0, .float .f32 0, .float .f32 0, .float .f32 0, .float .f32 0, .float .f32 0, .float .f32 0, .float .f32 0, .float .f32 0, .float .f32 0, .float .f32 0, .float .f32 0, .float .f32 0, .float .f32 0, .float .f32 0, .float .f32 0, .float .f32 0, .float .f32 0, .float .f32 0, .float .f32 0, .float .f32 0, .float .f32 0, .float .f32 0, .float .f32 0, .float .f32 0, .float .f32 0, .float .f32 0, .float .f32 0, .float .f32 0, .float .f32 0, .float .f32 0, .float .f32 0, .float .f32 0, .float .f32 0, .float .f32 0, .float .f32 0, .float .f32 0, .float .f32 0, .float .f32 0, .float .f32 0, .float .f32 0, .float .f32 0, .float .f32 0, .float .f32 0, .float .f32 0, .float .f32 0, .float .f32 0, .float .f32 0, .float .f32 0, .float .f32 0, .float .f32 0, .float .f32 0, .float .f32 0, .float .f32 0, .float .f32 0, .float .f32 0, .float .f32 0, .float .f32 0, .float .f32 0, .float .f32 0, .float .f32 0, .float .f32 0, .float .f32 0, .float .f32 0, .float .f32 0, .float .f32 0, .float .f32 0, .float .f32 0, .float .f32 0, .float .f32 0, .float .f32 0, .float .f32 0, .float .f32 0, .float .f32 0, .float .f32 0, .float .f32 0, .float .f32 0, .float .f32 0, .float .f32 0, .float .f32 0, .float .f32 0, .float .f32 0, .float .f32 0, .float .f32 0, .float .f32 0, .float .f32 0, .float .f32 0, .float .f32 0, .float .f32 0, .float .f32 0, .float .f32 0, .float .f32 0, .float .f32 0, .float .f32 0, .int .u64 0], .int .i64 0, .int .i64 0]
theorem fnExactFlowFrom_j0 : (Rows.fnExactFlowFromRow.inPlace == Tryd.prog.inPlace 13) = true := by kernel_rfl
theorem fnExactFlowFrom_j1 : (Rows.fnExactFlowFromRow.unfollowed == Tryd.prog.unfollowed 13) = true := by kernel_rfl
theorem fnExactFlowFrom_j2 : (Rows.fnExactFlowFromRow.recurses == Tryd.prog.recurses 13) = true := by kernel_rfl
theorem fnExactFlowFrom_j3 : (Rows.fnExactFlowFromRow.named == Tryd.prog.varsNamed 13) = true := by kernel_rfl
theorem fnExactFlowFrom_jw : Rows.fnExactFlowFromRow.wf (OpenSpec.ofChange Rows.fnExactFlowFromSpec) = true := by kernel_rfl
theorem fnExactFlowFrom_jn : namedTie Tryd.prog Rows.fnExactFlowFromRow.named Rows.fnExactFlowFromSpec.vars = true := by kernel_rfl
theorem fnExactFlowFrom_jf : joinedFacts Tryd.prog 13 Tryd.f13 Rows.fnExactFlowFromSpec Rows.fnExactFlowFromRow = true := by
  unfold joinedFacts
  simp only [Bool.and_eq_true]
  exact ⟨⟨⟨⟨⟨⟨⟨⟨⟨⟨⟨⟨⟨⟨⟨⟨⟨⟨⟨⟨⟨⟨⟨⟨⟨⟨⟨⟨⟨⟨⟨fnExactFlowFrom_jw, laidOut⟩, (by kernel_rfl)⟩, (by kernel_rfl)⟩, fnExactFlowFrom_jn⟩, (by kernel_rfl)⟩, (by kernel_rfl)⟩, (by kernel_rfl)⟩, (by kernel_rfl)⟩, fnExactFlowFrom_j0⟩, fnExactFlowFrom_j1⟩, fnExactFlowFrom_j2⟩, fnExactFlowFrom_j3⟩, (by kernel_rfl)⟩, (by kernel_rfl)⟩, (by kernel_rfl)⟩, (by kernel_rfl)⟩, (by kernel_rfl)⟩, (by kernel_rfl)⟩, (by kernel_rfl)⟩, (by kernel_rfl)⟩, (by kernel_rfl)⟩, (by kernel_rfl)⟩, (by kernel_rfl)⟩, (by kernel_rfl)⟩, seat_me⟩, seat_lf⟩, seat_mk⟩, (by kernel_rfl)⟩, (by kernel_rfl)⟩, (by kernel_rfl)⟩, (by kernel_rfl)⟩
theorem fnExactFlowFrom_nm : Tryd.pinned.checked.prog.funcNamed Rows.fnExactFlowFromRow.func = some 13 := by kernel_rfl
theorem fnExactFlowFrom_rd : ∀ t ∈ Tryd.f13.params.toList, Tryd.prog.readableRec t = true ∧ t < Tryd.prog.types.size := by rw [Tryd.params13]; exact (by decide +kernel)
theorem fnExactFlowFrom_ok (os : Os) : Input.okWideB Tryd.checked.prog ((World.doorLaid Tryd.prog 400 os).forCall (fun _ _ => 0) ⟨#[], fnExactFlowFrom_w, []⟩) 13 ⟨#[], fnExactFlowFrom_w, []⟩ = true := by kernel_rfl
theorem fnExactFlowFrom_pb (os : Os) (H : Type) (enc : TypeId × Value → H) : Rows.fnExactFlowFromSpec.preB enc Tryd.checked.prog Tryd.f13 [] false ((World.doorLaid Tryd.prog 400 os).forCall (fun _ _ => 0) ⟨#[], fnExactFlowFrom_w, []⟩).memory fnExactFlowFrom_w 16 = true := by kernel_rfl
theorem fnExactFlowFrom_sb (os : Os) (H : Type) (enc : TypeId × Value → H) : Rows.fnExactFlowFromSpec.sizedB enc Tryd.checked.prog Tryd.f13 false ((World.doorLaid Tryd.prog 400 os).forCall (fun _ _ => 0) ⟨#[], fnExactFlowFrom_w, []⟩).memory fnExactFlowFrom_w 16 = true := by kernel_rfl
theorem fnExactFlowFrom_sh (os : Os) : ((World.doorLaid Tryd.prog 400 os).forCall (fun _ _ => 0) ⟨#[], fnExactFlowFrom_w, []⟩).Shaped Tryd.checked.prog := World.shaped_of_B (by kernel_rfl) (by kernel_rfl)
theorem fnExactFlowFrom_row : Rows.FnExactFlowFromSaid :=
  OpenClaim.holds_of_wide 13 Tryd.f13 rfl rfl rfl rfl rfl rfl rfl ⟨rfl, rfl, rfl, rfl, rfl⟩ rfl rfl rfl rfl rfl fnExactFlowFrom_nm Tryd.func13 fnExactFlowFrom_jf
    (of_decide_eq_true (by kernel_rfl)) (by unfold Func.isWrapper; first | (rw [if_pos (by decide +kernel)]; kernel_rfl) | (rw [if_neg (by decide +kernel)]; exact ⟨rfl, rfl⟩))
    (fun os started H enc _ => liftT 13 Tryd.f13 Rows.fnExactFlowFromSpec Tryd.func13 rfl rfl
      (fun H ds h => match ds, h with | [d0, d1, d2], _ => rfl)
      fnExactFlowFrom_rd
      fnExactFlowFrom_walk os started H enc (by kernel_rfl)
      (witnessT 13 Tryd.f13 Rows.fnExactFlowFromSpec fnExactFlowFrom_w os H enc (fnExactFlowFrom_sh os) (fnExactFlowFrom_ok os) (fnExactFlowFrom_pb os H enc) (fnExactFlowFrom_sb os H enc)))

set_option maxRecDepth 100000 in
theorem fnExactFlowFrom_holds : Rows.FnExactFlowFromCardSaid :=
  Claim7.holds_tied_plain_at .later [] [.data] true Rows.fnExactFlowFromCard.stood.harness Rows.fnExactFlowFromCard.stood.looks
    fnExactFlowFrom_row (fun _ h => by cases h) (by kernel_rfl) (fun _ h => by cases h) fnExactFlowFrom_row_tie rfl ⟨rfl, rfl⟩ seat_mi (by kernel_rfl)
    (fun f fn hf hfn => by
      obtain rfl : f = 13 := Option.some.inj ((show Tryd.prog.funcNamed "loop.example/g01288/laws.FnExactFlowFrom" = some 13 by kernel_rfl).symm.trans hf) |>.symm
      obtain rfl : fn = Tryd.f13 := (Option.some.inj (Tryd.func13.symm.trans hfn)).symm
      refine ⟨by kernel_rfl, fun j t ht => ?_⟩
      have hall : Tryd.f13.params.toList.all (fun t => !Tryd.prog.wantsStandIn t) = true := by kernel_rfl
      have hm : t ∈ Tryd.f13.params.toList := Array.mem_toList_iff.2 (Array.mem_of_getElem? ht)
      have h := List.all_eq_true.1 hall t hm
      simp only [Bool.not_eq_true'] at h
      exact h)
    (by kernel_rfl)
#print axioms fnExactFlowFrom_holds
end Go.Proofs.YtjbldgefabbgpaaDoor
