/- The law FnExactValidGround of this commit: for every input the call returns true, and each argument reads afterwards as it read before. Condition: the table of math/bits is as its initialiser lays it (the card ties it to the program's text). -/
import Derived.Test.YtjmekgogaiokpaaDoorLawValidGround
import Derived.Test.YtjmekgogaiokpaaDoorSeat
import Derived.Test.YtjmekgogaiokpaaDoorCards
import Derived.Test.YtjmekgogaiokpaaDoorTie
import Derived.SevenTiedAt
namespace Go.Proofs.YtjmekgogaiokpaaDoor
open Go.ChangeShapes Go.WideShapes Go.ChangeAt Go.RowKit

set_option maxRecDepth 100000
def fnExactValidGround_w : Array Value := #[.agg #[.int .i8 0, .int .i8 0, .float .f32 0, .float .f32 0, .float .f32 0, .float .f32 0, .float .f32 0, .float .f32 0, .float .f32 0, .float .f32 0, .float .f32 0, .float .f32 0, .float .f32 0, .float .f32 0, .float .f32 0, .float .f32 0, .float .f32 0, .float .f32 0, .float .f32 0, .float .f32 0, .float .f32 0, .float .f32 0, .float .f32 0, .float .f32 0, .float .f32 0, .float .f32 0, .float .f32 0, .float .f32 0, .float .f32 0, .float .f32 0, .float .f32 0, .float .f32 0, .float .f32 0, .float .f32 0, .float .f32 0, .float .f32 0, .float .f32 0, .float .f32 0, .float .f32 0, .float .f32 0, .float .f32 0, .float .f32 0, .float .f32 0, .float .f32 0, .float .f32 0, .float .f32 0, .float .f32 0, .float .f32 0, .float .f32 0, .float .f32 0, .float .f32 0, .float .f32 0, .float .f32 0, .float .f32 0, .float .f32 0, .float .f32 0, .float .f32 0, .float .f32 0, .float .f32 0, .float .f32 0, .float .f32 0, .float .f32 0, .float .f32 0, .float .f32 0, .float .f32 0, .float .f32 0, .float .f32 0, .float .f32 0, .float .f32 0, .float .f32 0, .float .f32 0, .float .f32 0, .float .f32 0, .float .f32 0, .float .f32 0, .float .f32 0, .float .f32 0, .float .f32 0, .float .f32 0, .float .f32 0, .float .f32 0, .float .f32 0, .float .f32 0, .float .f32 0, .float .f32 0, .float .f32 0, .float .f32 0, .float .f32 0, .float .f32 0, .float .f32 0, .float .f32 0, .float .f32 0, .float .f32 0, .float .f32 0, .float .f32 0, .float .f32 0, .float .f32 0, .float .f32 0, .float .f32 0, .float .f32 0, .float .f32 0, .float .f32 0, .float .f32 0, .float .f32 0, .float .f32 0, .float .f32 0, .float .f32 0, .float .f32 0, .float .f32 0, .float .f32 0, .float .f32 0, .float .f32 0, .float .f32 0, .float .f32 0, .float .f32 0, .float .f32 0, .float .f32 0, .float .f32 0, .float .f32 0, .float .f32 0, .float .f32 0, .float .f32 0, .float .f32 0, .float .f32 0, .float .f32 0, .float .f32 0, .float .f32 0, .float .f32 0, .float .f32 0, .float .f32 0, .float .f32 0, .float .f32 0, .float .f32 0, .float .f32 0, .float .f32 0, .float .f32 0, .float .f32 0, .float .f32 0, .float .f32 0, .float .f32 0, .float .f32 0, .float .f32 0, .float .f32 0, .float .f32 0, .float .f32 0, .float .f32 0, .float .f32 0, .float .f32 0, .float .f32 0, .float .f32 0, .float .f32 0, .float .f32 0, .float .f32 0, .float .f32 0, .float .f32 0, .float .f32 0, .float .f32 0, .float .f32 0, .float .f32 0, .float .f32 0, .float .f32 0, .float .f32 0, .float .f32 0, .float .f32 0, .float .f32 0, .float .f32 0, .float .f32 0, .float .f32 0, .float .f32 0, .float .f32 0, .float .f32 0, .float .f32 0, .float .f32 0, .float .f32 0, .float .f32 0, .float .f32 0, .float .f32 0, .float .f32 0, .float .f32 0, .float .f32 0, .float .f32 0, .float .f32 0, .float .f32 0, .float .f32 0, .float .f32 0, .float .f32 0, .float .f32 0, .float .f32 0, .float .f32 0, .float .f32 0, .float .f32 0, .float .f32 0, .float .f32 0, .float .f32 0, .int .u64 0]]
theorem fnExactValidGround_j0 : (Rows.fnExactValidGroundRow.inPlace == Tryd.prog.inPlace 3) = true := by kernel_rfl
theorem fnExactValidGround_j1 : (Rows.fnExactValidGroundRow.unfollowed == Tryd.prog.unfollowed 3) = true := by kernel_rfl
theorem fnExactValidGround_j2 : (Rows.fnExactValidGroundRow.recurses == Tryd.prog.recurses 3) = true := by kernel_rfl
theorem fnExactValidGround_j3 : (Rows.fnExactValidGroundRow.named == Tryd.prog.varsNamed 3) = true := by kernel_rfl
theorem fnExactValidGround_jw : Rows.fnExactValidGroundRow.wf (OpenSpec.ofChange Rows.fnExactValidGroundSpec) = true := by kernel_rfl
theorem fnExactValidGround_jn : namedTie Tryd.prog Rows.fnExactValidGroundRow.named Rows.fnExactValidGroundSpec.vars = true := by kernel_rfl
theorem fnExactValidGround_jf : joinedFacts Tryd.prog 3 Tryd.f3 Rows.fnExactValidGroundSpec Rows.fnExactValidGroundRow = true := by
  unfold joinedFacts
  simp only [Bool.and_eq_true]
  exact ⟨⟨⟨⟨⟨⟨⟨⟨⟨⟨⟨⟨⟨⟨⟨⟨⟨⟨⟨⟨⟨⟨⟨⟨⟨⟨⟨⟨⟨⟨⟨fnExactValidGround_jw, laidOut⟩, (by kernel_rfl)⟩, (by kernel_rfl)⟩, fnExactValidGround_jn⟩, (by kernel_rfl)⟩, (by kernel_rfl)⟩, (by kernel_rfl)⟩, (by kernel_rfl)⟩, fnExactValidGround_j0⟩, fnExactValidGround_j1⟩, fnExactValidGround_j2⟩, fnExactValidGround_j3⟩, (by kernel_rfl)⟩, (by kernel_rfl)⟩, (by kernel_rfl)⟩, (by kernel_rfl)⟩, (by kernel_rfl)⟩, (by kernel_rfl)⟩, (by kernel_rfl)⟩, (by kernel_rfl)⟩, (by kernel_rfl)⟩, (by kernel_rfl)⟩, (by kernel_rfl)⟩, (by kernel_rfl)⟩, seat_me⟩, seat_lf⟩, seat_mk⟩, (by kernel_rfl)⟩, (by kernel_rfl)⟩, (by kernel_rfl)⟩, (by kernel_rfl)⟩
theorem fnExactValidGround_nm : Tryd.pinned.checked.prog.funcNamed Rows.fnExactValidGroundRow.func = some 3 := by kernel_rfl
theorem fnExactValidGround_rd : ∀ t ∈ Tryd.f3.params.toList, Tryd.prog.readableRec t = true ∧ t < Tryd.prog.types.size := by rw [Tryd.params3]; exact (by decide +kernel)
theorem fnExactValidGround_ok (os : Os) : Input.okWideB Tryd.checked.prog ((World.doorLaid Tryd.prog 400 os).forCall (fun _ _ => 0) ⟨#[], fnExactValidGround_w, []⟩) 3 ⟨#[], fnExactValidGround_w, []⟩ = true := by kernel_rfl
theorem fnExactValidGround_pb (os : Os) (H : Type) (enc : TypeId × Value → H) : Rows.fnExactValidGroundSpec.preB enc Tryd.checked.prog Tryd.f3 [] false ((World.doorLaid Tryd.prog 400 os).forCall (fun _ _ => 0) ⟨#[], fnExactValidGround_w, []⟩).memory fnExactValidGround_w 16 = true := by kernel_rfl
theorem fnExactValidGround_sb (os : Os) (H : Type) (enc : TypeId × Value → H) : Rows.fnExactValidGroundSpec.sizedB enc Tryd.checked.prog Tryd.f3 false ((World.doorLaid Tryd.prog 400 os).forCall (fun _ _ => 0) ⟨#[], fnExactValidGround_w, []⟩).memory fnExactValidGround_w 16 = true := by kernel_rfl
theorem fnExactValidGround_sh (os : Os) : ((World.doorLaid Tryd.prog 400 os).forCall (fun _ _ => 0) ⟨#[], fnExactValidGround_w, []⟩).Shaped Tryd.checked.prog := World.shaped_of_B (by kernel_rfl) (by kernel_rfl)
theorem fnExactValidGround_row : Rows.FnExactValidGroundSaid :=
  OpenClaim.holds_of_wide 3 Tryd.f3 rfl rfl rfl rfl rfl rfl rfl ⟨rfl, rfl, rfl, rfl, rfl⟩ rfl rfl rfl rfl rfl fnExactValidGround_nm Tryd.func3 fnExactValidGround_jf
    (of_decide_eq_true (by kernel_rfl)) (by unfold Func.isWrapper; first | (rw [if_pos (by decide +kernel)]; kernel_rfl) | (rw [if_neg (by decide +kernel)]; exact ⟨rfl, rfl⟩))
    (fun os started H enc _ => liftT 3 Tryd.f3 Rows.fnExactValidGroundSpec Tryd.func3 rfl rfl
      (fun H ds h => match ds, h with | [d0], _ => rfl)
      fnExactValidGround_rd
      fnExactValidGround_walk os started H enc (by kernel_rfl)
      (witnessT 3 Tryd.f3 Rows.fnExactValidGroundSpec fnExactValidGround_w os H enc (fnExactValidGround_sh os) (fnExactValidGround_ok os) (fnExactValidGround_pb os H enc) (fnExactValidGround_sb os H enc)))

set_option maxRecDepth 100000 in
theorem fnExactValidGround_holds : Rows.FnExactValidGroundCardSaid :=
  Claim7.holds_tied_plain_at .later [] [.data] true Rows.fnExactValidGroundCard.stood.harness Rows.fnExactValidGroundCard.stood.looks
    fnExactValidGround_row (fun _ h => by cases h) (by kernel_rfl) (fun _ h => by cases h) fnExactValidGround_row_tie rfl ⟨rfl, rfl⟩ seat_mi (by kernel_rfl)
    (fun f fn hf hfn => by
      obtain rfl : f = 3 := Option.some.inj ((show Tryd.prog.funcNamed "loop.example/g01288/laws.FnExactValidGround" = some 3 by kernel_rfl).symm.trans hf) |>.symm
      obtain rfl : fn = Tryd.f3 := (Option.some.inj (Tryd.func3.symm.trans hfn)).symm
      refine ⟨by kernel_rfl, fun j t ht => ?_⟩
      have hall : Tryd.f3.params.toList.all (fun t => !Tryd.prog.wantsStandIn t) = true := by kernel_rfl
      have hm : t ∈ Tryd.f3.params.toList := Array.mem_toList_iff.2 (Array.mem_of_getElem? ht)
      have h := List.all_eq_true.1 hall t hm
      simp only [Bool.not_eq_true'] at h
      exact h)
    (by kernel_rfl)
#print axioms fnExactValidGround_holds
end Go.Proofs.YtjmekgogaiokpaaDoor
