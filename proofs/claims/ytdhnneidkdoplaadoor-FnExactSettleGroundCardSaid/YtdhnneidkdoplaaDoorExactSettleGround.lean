/- The law FnExactSettleGround of this commit: for every input the call returns true, and each argument reads afterwards as it read before. Condition: the table of math/bits is as its initialiser lays it (the card ties it to the program's text). -/
import Derived.Test.YtdhnneidkdoplaaDoorLawSettleGround
import Derived.Test.YtdhnneidkdoplaaDoorSeat
import Derived.Test.YtdhnneidkdoplaaDoorCards
import Derived.Test.YtdhnneidkdoplaaDoorTie
import Derived.SevenTiedAt
namespace Go.Proofs.YtdhnneidkdoplaaDoor
open Go.ChangeShapes Go.WideShapes Go.ChangeAt Go.RowKit

set_option maxRecDepth 100000
def fnExactSettleGround_w : Array Value := #[.agg #[.int .i8 0, .int .i8 0, .float .f32 0, .float .f32 0, .float .f32 0, .float .f32 0, .float .f32 0, .float .f32 0, .float .f32 0, .float .f32 0, .float .f32 0, .float .f32 0, .float .f32 0, .float .f32 0, .float .f32 0, .float .f32 0, .float .f32 0, .float .f32 0, .float .f32 0, .float .f32 0, .float .f32 0, .float .f32 0, .float .f32 0, .float .f32 0, .float .f32 0, .float .f32 0, .float .f32 0, .float .f32 0, .float .f32 0, .float .f32 0, .float .f32 0, .float .f32 0, .float .f32 0, .float .f32 0, .float .f32 0, .float .f32 0, .float .f32 0, .float .f32 0, .float .f32 0, .float .f32 0, .float .f32 0, .float .f32 0, .float .f32 0, .float .f32 0, .float .f32 0, .float .f32 0, .float .f32 0, .float .f32 0, .float .f32 0, .float .f32 0, .float .f32 0, .float .f32 0, .float .f32 0, .float .f32 0, .float .f32 0, .float .f32 0, .float .f32 0, .float .f32 0, .float .f32 0, .float .f32 0, .float .f32 0, .float .f32 0, .float .f32 0, .float .f32 0, .float .f32 0, .float .f32 0, .float .f32 0, .float .f32 0, .float .f32 0, .float .f32 0, .float .f32 0, .float .f32 0, .float .f32 0, .float .f32 0, .float .f32 0, .float .f32 0, .float .f32 0, .float .f32 0, .float .f32 0, .float .f32 0, .float .f32 0, .float .f32 0, .float .f32 0, .float .f32 0, .float .f32 0, .float .f32 0, .float .f32 0, .float .f32 0, .float .f32 0, .float .f32 0, .float .f32 0, .float .f32 0, .float .f32 0, .float .f32 0, .float .f32 0, .float .f32 0, .float .f32 0, .float .f32 0, .float .f32 0, .float .f32 0, .float .f32 0, .float .f32 0, .float .f32 0, .float .f32 0, .float .f32 0, .float .f32 0, .float .f32 0, .float .f32 0, .float .f32 0, .float .f32 0, .float .f32 0, .float .f32 0, .float .f32 0, .float .f32 0, .float .f32 0, .float .f32 0, .float .f32 0, .float .f32 0, .float .f32 0, .float .f32 0, .float .f32 0, .float .f32 0, .float .f32 0, .float .f32 0, .float .f32 0, .float .f32 0, .float .f32 0, .float .f32 0, .float .f32 0, .float .f32 0, .float .f32 0, .float .f32 0, .float .f32 0, .float .f32 0, .float .f32 0, .float .f32 0, .float .f32 0, .float .f32 0, .float .f32 0, .float .f32 0, .float .f32 0, .float .f32 0, .float .f32 0, .float .f32 0, .float .f32 0, .float .f32 0, .float .f32 0, .float .f32 0, .float .f32 0, .float .f32 0, .float .f32 0, .float .f32 0, .float .f32 0, .float .f32 0, .float .f32 0, .float .f32 0, .float .f32 0, .float .f32 0, .float .f32 0, .float .f32 0, .float .f32 0, .float .f32 0, .float .f32 0, .float .f32 0, .float .f32 0, .float .f32 0, .float .f32 0, .float .f32 0, .float .f32 0, .float .f32 0, .float .f32 0, .float .f32 0, .float .f32 0, .float .f32 0, .float .f32 0, .float .f32 0, .float .f32 0, .float .f32 0, .float .f32 0, .float .f32 0, .float .f32 0, .float .f32 0, .float .f32 0, .float .f32 0, .float .f32 0, .float .f32 0, .float .f32 0, .float .f32 0, .float .f32 0, .float .f32 0, .float .f32 0, .float .f32 0, .float .f32 0, .float .f32 0, .int .u64 0], .float .f32 0, .int .i64 0]
theorem fnExactSettleGround_j0 : (Rows.fnExactSettleGroundRow.inPlace == Tryd.prog.inPlace 15) = true := by kernel_rfl
theorem fnExactSettleGround_j1 : (Rows.fnExactSettleGroundRow.unfollowed == Tryd.prog.unfollowed 15) = true := by kernel_rfl
theorem fnExactSettleGround_j2 : (Rows.fnExactSettleGroundRow.recurses == Tryd.prog.recurses 15) = true := by kernel_rfl
theorem fnExactSettleGround_j3 : (Rows.fnExactSettleGroundRow.named == Tryd.prog.varsNamed 15) = true := by kernel_rfl
theorem fnExactSettleGround_jw : Rows.fnExactSettleGroundRow.wf (OpenSpec.ofChange Rows.fnExactSettleGroundSpec) = true := by kernel_rfl
theorem fnExactSettleGround_jn : namedTie Tryd.prog Rows.fnExactSettleGroundRow.named Rows.fnExactSettleGroundSpec.vars = true := by kernel_rfl
theorem fnExactSettleGround_jf : joinedFacts Tryd.prog 15 Tryd.f15 Rows.fnExactSettleGroundSpec Rows.fnExactSettleGroundRow = true := by
  unfold joinedFacts
  simp only [Bool.and_eq_true]
  exact ⟨⟨⟨⟨⟨⟨⟨⟨⟨⟨⟨⟨⟨⟨⟨⟨⟨⟨⟨⟨⟨⟨⟨⟨⟨⟨⟨⟨⟨⟨⟨fnExactSettleGround_jw, laidOut⟩, (by kernel_rfl)⟩, (by kernel_rfl)⟩, fnExactSettleGround_jn⟩, (by kernel_rfl)⟩, (by kernel_rfl)⟩, (by kernel_rfl)⟩, (by kernel_rfl)⟩, fnExactSettleGround_j0⟩, fnExactSettleGround_j1⟩, fnExactSettleGround_j2⟩, fnExactSettleGround_j3⟩, (by kernel_rfl)⟩, (by kernel_rfl)⟩, (by kernel_rfl)⟩, (by kernel_rfl)⟩, (by kernel_rfl)⟩, (by kernel_rfl)⟩, (by kernel_rfl)⟩, (by kernel_rfl)⟩, (by kernel_rfl)⟩, (by kernel_rfl)⟩, (by kernel_rfl)⟩, (by kernel_rfl)⟩, seat_me⟩, seat_lf⟩, seat_mk⟩, (by kernel_rfl)⟩, (by kernel_rfl)⟩, (by kernel_rfl)⟩, (by kernel_rfl)⟩
theorem fnExactSettleGround_nm : Tryd.pinned.checked.prog.funcNamed Rows.fnExactSettleGroundRow.func = some 15 := by kernel_rfl
theorem fnExactSettleGround_rd : ∀ t ∈ Tryd.f15.params.toList, Tryd.prog.readableRec t = true ∧ t < Tryd.prog.types.size := by rw [Tryd.params15]; exact (by decide +kernel)
theorem fnExactSettleGround_ok (os : Os) : Input.okWideB Tryd.checked.prog ((World.doorLaid Tryd.prog 400 os).forCall (fun _ _ => 0) ⟨#[], fnExactSettleGround_w, []⟩) 15 ⟨#[], fnExactSettleGround_w, []⟩ = true := by kernel_rfl
theorem fnExactSettleGround_pb (os : Os) (H : Type) (enc : TypeId × Value → H) : Rows.fnExactSettleGroundSpec.preB enc Tryd.checked.prog Tryd.f15 [] false ((World.doorLaid Tryd.prog 400 os).forCall (fun _ _ => 0) ⟨#[], fnExactSettleGround_w, []⟩).memory fnExactSettleGround_w 16 = true := by kernel_rfl
theorem fnExactSettleGround_sb (os : Os) (H : Type) (enc : TypeId × Value → H) : Rows.fnExactSettleGroundSpec.sizedB enc Tryd.checked.prog Tryd.f15 false ((World.doorLaid Tryd.prog 400 os).forCall (fun _ _ => 0) ⟨#[], fnExactSettleGround_w, []⟩).memory fnExactSettleGround_w 16 = true := by kernel_rfl
theorem fnExactSettleGround_sh (os : Os) : ((World.doorLaid Tryd.prog 400 os).forCall (fun _ _ => 0) ⟨#[], fnExactSettleGround_w, []⟩).Shaped Tryd.checked.prog := World.shaped_of_B (by kernel_rfl) (by kernel_rfl)
theorem fnExactSettleGround_row : Rows.FnExactSettleGroundSaid :=
  OpenClaim.holds_of_wide 15 Tryd.f15 rfl rfl rfl rfl rfl rfl rfl ⟨rfl, rfl, rfl, rfl, rfl⟩ rfl rfl rfl rfl rfl fnExactSettleGround_nm Tryd.func15 fnExactSettleGround_jf
    (of_decide_eq_true (by kernel_rfl)) (by unfold Func.isWrapper; first | (rw [if_pos (by decide +kernel)]; kernel_rfl) | (rw [if_neg (by decide +kernel)]; exact ⟨rfl, rfl⟩))
    (fun os started H enc _ => liftT 15 Tryd.f15 Rows.fnExactSettleGroundSpec Tryd.func15 rfl rfl
      (fun H ds h => match ds, h with | [d0, d1, d2], _ => rfl)
      fnExactSettleGround_rd
      fnExactSettleGround_walk os started H enc (by kernel_rfl)
      (witnessT 15 Tryd.f15 Rows.fnExactSettleGroundSpec fnExactSettleGround_w os H enc (fnExactSettleGround_sh os) (fnExactSettleGround_ok os) (fnExactSettleGround_pb os H enc) (fnExactSettleGround_sb os H enc)))

set_option maxRecDepth 100000 in
theorem fnExactSettleGround_holds : Rows.FnExactSettleGroundCardSaid :=
  Claim7.holds_tied_plain_at .later [] [.data] true Rows.fnExactSettleGroundCard.stood.harness Rows.fnExactSettleGroundCard.stood.looks
    fnExactSettleGround_row (fun _ h => by cases h) (by kernel_rfl) (fun _ h => by cases h) fnExactSettleGround_row_tie rfl ⟨rfl, rfl⟩ seat_mi (by kernel_rfl)
    (fun f fn hf hfn => by
      obtain rfl : f = 15 := Option.some.inj ((show Tryd.prog.funcNamed "loop.example/g01288/laws.FnExactSettleGround" = some 15 by kernel_rfl).symm.trans hf) |>.symm
      obtain rfl : fn = Tryd.f15 := (Option.some.inj (Tryd.func15.symm.trans hfn)).symm
      refine ⟨by kernel_rfl, fun j t ht => ?_⟩
      have hall : Tryd.f15.params.toList.all (fun t => !Tryd.prog.wantsStandIn t) = true := by kernel_rfl
      have hm : t ∈ Tryd.f15.params.toList := Array.mem_toList_iff.2 (Array.mem_of_getElem? ht)
      have h := List.all_eq_true.1 hall t hm
      simp only [Bool.not_eq_true'] at h
      exact h)
    (by kernel_rfl)
#print axioms fnExactSettleGround_holds
end Go.Proofs.YtdhnneidkdoplaaDoor
