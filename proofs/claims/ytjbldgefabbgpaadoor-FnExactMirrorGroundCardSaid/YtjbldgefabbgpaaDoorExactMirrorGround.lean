/- The law FnExactMirrorGround of this commit: for every input the call returns true, and each argument reads afterwards as it read before. Condition: the table of math/bits is as its initialiser lays it (the card ties it to the program's text). -/
import Derived.Test.YtjbldgefabbgpaaDoorLawMirrorGround
import Derived.Test.YtjbldgefabbgpaaDoorSeat
import Derived.Test.YtjbldgefabbgpaaDoorCards
import Derived.Test.YtjbldgefabbgpaaDoorTie
import Derived.SevenTiedAt
namespace Go.Proofs.YtjbldgefabbgpaaDoor
open Go.ChangeShapes Go.WideShapes Go.ChangeAt Go.RowKit

set_option maxRecDepth 100000
def fnExactMirrorGround_w : Array Value := #[.agg #[.int .i8 0, .int .i8 0, .float .f32 0, .float .f32 0, .float .f32 0, .float .f32 0, .float .f32 0, .float .f32 0, .float .f32 0, .float .f32 0, .float .f32 0, .float .f32 0, .float .f32 0, .float .f32 0, .float .f32 0, .float .f32 0, .float .f32 0, .float .f32 0, .float .f32 0, .float .f32 0, .float .f32 0, .float .f32 0, .float .f32 0, .float .f32 0, .float .f32 0, .float .f32 0, .float .f32 0, .float .f32 0, .float .f32 0, .float .f32 0, .float .f32 0, .float .f32 0, .float .f32 0, .float .f32 0, .float .f32 0, .float .f32 0, .float .f32 0, .float .f32 0, .float .f32 0, .float .f32 0, .float .f32 0, .float .f32 0, .float .f32 0, .float .f32 0, .float .f32 0, .float .f32 0, .float .f32 0, .float .f32 0, .float .f32 0, .float .f32 0, .float .f32 0, .float .f32 0, .float .f32 0, .float .f32 0, .float .f32 0, .float .f32 0, .float .f32 0, .float .f32 0, .float .f32 0, .float .f32 0, .float .f32 0, .float .f32 0, .float .f32 0, .float .f32 0, .float .f32 0, .float .f32 0, .float .f32 0, .float .f32 0, .float .f32 0, .float .f32 0, .float .f32 0, .float .f32 0, .float .f32 0, .float .f32 0, .float .f32 0, .float .f32 0, .float .f32 0, .float .f32 0, .float .f32 0, .float .f32 0, .float .f32 0, .float .f32 0, .float .f32 0, .float .f32 0, .float .f32 0, .float .f32 0, .float .f32 0, .float .f32 0, .float .f32 0, .float .f32 0, .float .f32 0, .float .f32 0, .float .f32 0, .float .f32 0, .float .f32 0, .float .f32 0, .float .f32 0, .float .f32 0, .float .f32 0, .float .f32 0, .float .f32 0, .float .f32 0, .float .f32 0, .float .f32 0, .float .f32 0, .float .f32 0, .float .f32 0, .float .f32 0, .float .f32 0, .float .f32 0, .float .f32 0, .float .f32 0, .float .f32 0, .float .f32 0, .float .f32 0, .float .f32 0, .float .f32 0, .float .f32 0, .float .f32 0, .float .f32 0, .float .f32 0, .float .f32 0, .float .f32 0, .float .f32 0, .float .f32 0, .float .f32 0, .float .f32 0, .float .f32 0, .float .f32 0, .float .f32 0, .float .f32 0, .float .f32 0, .float .f32 0, .float .f32 0, .float .f32 0, .float .f32 0, .float .f32 0, .float .f32 0, .float .f32 0, .float .f32 0, .float .f32 0, .float .f32 0, .float .f32 0, .float .f32 0, .float .f32 0, .float .f32 0, .float .f32 0, .float .f32 0, .float .f32 0, .float .f32 0, .float .f32 0, .float .f32 0, .float .f32 0, .float .f32 0, .float .f32 0, .float .f32 0, .float .f32 0, .float .f32 0, .float .f32 0, .float .f32 0, .float .f32 0, .float .f32 0, .float .f32 0, .float .f32 0, .float .f32 0, .float .f32 0, .float .f32 0, .float .f32 0, .float .f32 0, .float .f32 0, .float .f32 0, .float .f32 0, .float .f32 0, .float .f32 0, .float .f32 0, .float .f32 0, .float .f32 0, .float .f32 0, .float .f32 0, .float .f32 0, .float .f32 0, .float .f32 0, .float .f32 0, .float .f32 0, .float .f32 0, .float .f32 0, .float .f32 0, .float .f32 0, .float .f32 0, .float .f32 0, .float .f32 0, .float .f32 0, .float .f32 0, .float .f32 0, .int .u64 0]]
theorem fnExactMirrorGround_j0 : (Rows.fnExactMirrorGroundRow.inPlace == Tryd.prog.inPlace 11) = true := by kernel_rfl
theorem fnExactMirrorGround_j1 : (Rows.fnExactMirrorGroundRow.unfollowed == Tryd.prog.unfollowed 11) = true := by kernel_rfl
theorem fnExactMirrorGround_j2 : (Rows.fnExactMirrorGroundRow.recurses == Tryd.prog.recurses 11) = true := by kernel_rfl
theorem fnExactMirrorGround_j3 : (Rows.fnExactMirrorGroundRow.named == Tryd.prog.varsNamed 11) = true := by kernel_rfl
theorem fnExactMirrorGround_jw : Rows.fnExactMirrorGroundRow.wf (OpenSpec.ofChange Rows.fnExactMirrorGroundSpec) = true := by kernel_rfl
theorem fnExactMirrorGround_jn : namedTie Tryd.prog Rows.fnExactMirrorGroundRow.named Rows.fnExactMirrorGroundSpec.vars = true := by kernel_rfl
theorem fnExactMirrorGround_jf : joinedFacts Tryd.prog 11 Tryd.f11 Rows.fnExactMirrorGroundSpec Rows.fnExactMirrorGroundRow = true := by
  unfold joinedFacts
  simp only [Bool.and_eq_true]
  exact ⟨⟨⟨⟨⟨⟨⟨⟨⟨⟨⟨⟨⟨⟨⟨⟨⟨⟨⟨⟨⟨⟨⟨⟨⟨⟨⟨⟨⟨⟨⟨fnExactMirrorGround_jw, laidOut⟩, (by kernel_rfl)⟩, (by kernel_rfl)⟩, fnExactMirrorGround_jn⟩, (by kernel_rfl)⟩, (by kernel_rfl)⟩, (by kernel_rfl)⟩, (by kernel_rfl)⟩, fnExactMirrorGround_j0⟩, fnExactMirrorGround_j1⟩, fnExactMirrorGround_j2⟩, fnExactMirrorGround_j3⟩, (by kernel_rfl)⟩, (by kernel_rfl)⟩, (by kernel_rfl)⟩, (by kernel_rfl)⟩, (by kernel_rfl)⟩, (by kernel_rfl)⟩, (by kernel_rfl)⟩, (by kernel_rfl)⟩, (by kernel_rfl)⟩, (by kernel_rfl)⟩, (by kernel_rfl)⟩, (by kernel_rfl)⟩, seat_me⟩, seat_lf⟩, seat_mk⟩, (by kernel_rfl)⟩, (by kernel_rfl)⟩, (by kernel_rfl)⟩, (by kernel_rfl)⟩
theorem fnExactMirrorGround_nm : Tryd.pinned.checked.prog.funcNamed Rows.fnExactMirrorGroundRow.func = some 11 := by kernel_rfl
theorem fnExactMirrorGround_rd : ∀ t ∈ Tryd.f11.params.toList, Tryd.prog.readableRec t = true ∧ t < Tryd.prog.types.size := by rw [Tryd.params11]; exact (by decide +kernel)
theorem fnExactMirrorGround_ok (os : Os) : Input.okWideB Tryd.checked.prog ((World.doorLaid Tryd.prog 400 os).forCall (fun _ _ => 0) ⟨#[], fnExactMirrorGround_w, []⟩) 11 ⟨#[], fnExactMirrorGround_w, []⟩ = true := by kernel_rfl
theorem fnExactMirrorGround_pb (os : Os) (H : Type) (enc : TypeId × Value → H) : Rows.fnExactMirrorGroundSpec.preB enc Tryd.checked.prog Tryd.f11 [] false ((World.doorLaid Tryd.prog 400 os).forCall (fun _ _ => 0) ⟨#[], fnExactMirrorGround_w, []⟩).memory fnExactMirrorGround_w 16 = true := by kernel_rfl
theorem fnExactMirrorGround_sb (os : Os) (H : Type) (enc : TypeId × Value → H) : Rows.fnExactMirrorGroundSpec.sizedB enc Tryd.checked.prog Tryd.f11 false ((World.doorLaid Tryd.prog 400 os).forCall (fun _ _ => 0) ⟨#[], fnExactMirrorGround_w, []⟩).memory fnExactMirrorGround_w 16 = true := by kernel_rfl
theorem fnExactMirrorGround_sh (os : Os) : ((World.doorLaid Tryd.prog 400 os).forCall (fun _ _ => 0) ⟨#[], fnExactMirrorGround_w, []⟩).Shaped Tryd.checked.prog := World.shaped_of_B (by kernel_rfl) (by kernel_rfl)
theorem fnExactMirrorGround_row : Rows.FnExactMirrorGroundSaid :=
  OpenClaim.holds_of_wide 11 Tryd.f11 rfl rfl rfl rfl rfl rfl rfl ⟨rfl, rfl, rfl, rfl, rfl⟩ rfl rfl rfl rfl rfl fnExactMirrorGround_nm Tryd.func11 fnExactMirrorGround_jf
    (of_decide_eq_true (by kernel_rfl)) (by unfold Func.isWrapper; first | (rw [if_pos (by decide +kernel)]; kernel_rfl) | (rw [if_neg (by decide +kernel)]; exact ⟨rfl, rfl⟩))
    (fun os started H enc _ => liftT 11 Tryd.f11 Rows.fnExactMirrorGroundSpec Tryd.func11 rfl rfl
      (fun H ds h => match ds, h with | [d0], _ => rfl)
      fnExactMirrorGround_rd
      fnExactMirrorGround_walk os started H enc (by kernel_rfl)
      (witnessT 11 Tryd.f11 Rows.fnExactMirrorGroundSpec fnExactMirrorGround_w os H enc (fnExactMirrorGround_sh os) (fnExactMirrorGround_ok os) (fnExactMirrorGround_pb os H enc) (fnExactMirrorGround_sb os H enc)))

set_option maxRecDepth 100000 in
theorem fnExactMirrorGround_holds : Rows.FnExactMirrorGroundCardSaid :=
  Claim7.holds_tied_plain_at .later [] [.data] true Rows.fnExactMirrorGroundCard.stood.harness Rows.fnExactMirrorGroundCard.stood.looks
    fnExactMirrorGround_row (fun _ h => by cases h) (by kernel_rfl) (fun _ h => by cases h) fnExactMirrorGround_row_tie rfl ⟨rfl, rfl⟩ seat_mi (by kernel_rfl)
    (fun f fn hf hfn => by
      obtain rfl : f = 11 := Option.some.inj ((show Tryd.prog.funcNamed "loop.example/g01288/laws.FnExactMirrorGround" = some 11 by kernel_rfl).symm.trans hf) |>.symm
      obtain rfl : fn = Tryd.f11 := (Option.some.inj (Tryd.func11.symm.trans hfn)).symm
      refine ⟨by kernel_rfl, fun j t ht => ?_⟩
      have hall : Tryd.f11.params.toList.all (fun t => !Tryd.prog.wantsStandIn t) = true := by kernel_rfl
      have hm : t ∈ Tryd.f11.params.toList := Array.mem_toList_iff.2 (Array.mem_of_getElem? ht)
      have h := List.all_eq_true.1 hall t hm
      simp only [Bool.not_eq_true'] at h
      exact h)
    (by kernel_rfl)
#print axioms fnExactMirrorGround_holds
end Go.Proofs.YtjbldgefabbgpaaDoor
