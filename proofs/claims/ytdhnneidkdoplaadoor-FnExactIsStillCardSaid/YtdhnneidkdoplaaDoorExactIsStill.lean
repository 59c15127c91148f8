/- The law FnExactIsStill of this commit: for every input the call returns true, and each argument reads afterwards as it read before. Condition: the table of math/bits is as its initialiser lays it (the card ties it to the program's text). -/
import Derived.Test.YtdhnneidkdoplaaDoorLawIsStill
import Derived.Test.YtdhnneidkdoplaaDoorSeat
import Derived.Test.YtdhnneidkdoplaaDoorCards
import Derived.Test.YtdhnneidkdoplaaDoorTie
import Derived.SevenTiedAt
namespace Go.Proofs.YtdhnneidkdoplaaDoor
open Go.ChangeShapes Go.WideShapes Go.ChangeAt Go.RowKit

set_option maxRecDepth 100000
def fnExactIsStill_w : Array Value := #[.agg #[.int .i8 0, .int .i8 0, .float .f32 0, .float .f32 0, .float .f32 0, .float .f32 0, .float .f32 0, .float .f32 0, .float .f32 0, .float .f32 0, .float .f32 0, .float .f32 0, .float .f32 0, .float .f32 0, .float .f32 0, .float .f32 0, .float .f32 0, .float .f32 0, .float .f32 0, .float .f32 0, .float .f32 0, .float .f32 0, .float .f32 0, .float .f32 0, .float .f32 0, .float .f32 0, .float .f32 0, .float .f32 0, .float .f32 0, .float .f32 0, .float .f32 0, .float .f32 0, .float .f32 0, .float .f32 0, .float .f32 0, .float .f32 0, .float .f32 0, .float .f32 0, .float .f32 0, .float .f32 0, .float .f32 0, .float .f32 0, .float .f32 0, .float .f32 0, .float .f32 0, .float .f32 0, .float .f32 0, .float .f32 0, .float .f32 0, .float .f32 0, .float .f32 0, .float .f32 0, .float .f32 0, .float .f32 0, .float .f32 0, .float .f32 0, .float .f32 0, .float .f32 0, .float .f32 0, .float .f32 0, .float .f32 0, .float .f32 0, .float .f32 0, .float .f32 0, .float .f32 0, .float .f32 0, .float .f32 0, .float .f32 0, .float .f32 0, .float .f32 0, .float .f32 0, .float .f32 0, .float .f32 0, .float .f32 0, .float .f32 0, .float .f32 0, .float .f32 0, .float .f32 0, .float .f32 0, .float .f32 0, .float .f32 0, .float .f32 0, .float .f32 0, .float .f32 0, .float .f32 0, .float .f32 0, .float .f32 0, .float .f32 0, .float .f32 0, .float .f32 0, .float .f32 0, .float .f32 0, .float .f32 0, .float .f32 0, .float .f32 0, .float .f32 0, .float .f32 0, .float .f32 0, .float .f32 0, .float .f32 0, .float .f32 0, .float .f32 0, .float .f32 0, .float .f32 0, .float .f32 0, .float .f32 0, .float .f32 0, .float .f32 0, .float .f32 0, .float .f32 0, .float .f32 0, .float .f32 0, .float .f32 0, .float .f32 0, .float .f32 0, .float .f32 0, .float .f32 0, .float .f32 0, .float .f32 0, .float .f32 0, .float .f32 0, .float .f32 0, .float .f32 0, .float .f32 0, .float .f32 0, .float .f32 0, .float .f32 0, .float .f32 0, .float .f32 0, .float .f32 0, .float .f32 0, .float .f32 0, .float .f32 0, .float .f32 0, .float .f32 0, .float .f32 0, .float .f32 0, .float .f32 0, .float .f32 0, .float .f32 0, .float .f32 0, .float .f32 0, .float .f32 0, .float .f32 0, .float .f32 0, .float .f32 0, .float .f32 0, .float .f32 0, .float .f32 0, .float .f32 0, .float .f32 0, .float .f32 0, .float .f32 0, .float .f32 0, .float .f32 0, .float .f32 0, .float .f32 0, .float .f32 0, .float .f32 0, .float .f32 0, .float .f32 0, .float .f32 0, .float .f32 0, .float .f32 0, .float .f32 0, .float .f32 0, .float .f32 0, .float .f32 0, .float .f32 0, .float .f32 0, .float .f32 0, .float .f32 0, .float .f32 0, .float .f32 0, .float .f32 0, .float .f32 0, .float .f32 0, .float .f32 0, .float .f32 0, .float .f32 0, .float .f32 0, .float .f32 0, .float .f32 0, .float .f32 0, .float .f32 0, .float .f32 0, .float .f32 0, .float .f32 0, .float .f32 0, .float .f32 0, .float .f32 0, .float .f32 0, .float .f32 0, .float .f32 0, .int .u64 0], .float .f32 0]
theorem fnExactIsStill_j0 : (Rows.fnExactIsStillRow.inPlace == Tryd.prog.inPlace 9) = true := by kernel_rfl
theorem fnExactIsStill_j1 : (Rows.fnExactIsStillRow.unfollowed == Tryd.prog.unfollowed 9) = true := by kernel_rfl
theorem fnExactIsStill_j2 : (Rows.fnExactIsStillRow.recurses == Tryd.prog.recurses 9) = true := by kernel_rfl
theorem fnExactIsStill_j3 : (Rows.fnExactIsStillRow.named == Tryd.prog.varsNamed 9) = true := by kernel_rfl
theorem fnExactIsStill_jw : Rows.fnExactIsStillRow.wf (OpenSpec.ofChange Rows.fnExactIsStillSpec) = true := by kernel_rfl
theorem fnExactIsStill_jn : namedTie Tryd.prog Rows.fnExactIsStillRow.named Rows.fnExactIsStillSpec.vars = true := by kernel_rfl
theorem fnExactIsStill_jf : joinedFacts Tryd.prog 9 Tryd.f9 Rows.fnExactIsStillSpec Rows.fnExactIsStillRow = true := by
  unfold joinedFacts
  simp only [Bool.and_eq_true]
  exact ⟨⟨⟨⟨⟨⟨⟨⟨⟨⟨⟨⟨⟨⟨⟨⟨⟨⟨⟨⟨⟨⟨⟨⟨⟨⟨⟨⟨⟨⟨⟨fnExactIsStill_jw, laidOut⟩, (by kernel_rfl)⟩, (by kernel_rfl)⟩, fnExactIsStill_jn⟩, (by kernel_rfl)⟩, (by kernel_rfl)⟩, (by kernel_rfl)⟩, (by kernel_rfl)⟩, fnExactIsStill_j0⟩, fnExactIsStill_j1⟩, fnExactIsStill_j2⟩, fnExactIsStill_j3⟩, (by kernel_rfl)⟩, (by kernel_rfl)⟩, (by kernel_rfl)⟩, (by kernel_rfl)⟩, (by kernel_rfl)⟩, (by kernel_rfl)⟩, (by kernel_rfl)⟩, (by kernel_rfl)⟩, (by kernel_rfl)⟩, (by kernel_rfl)⟩, (by kernel_rfl)⟩, (by kernel_rfl)⟩, seat_me⟩, seat_lf⟩, seat_mk⟩, (by kernel_rfl)⟩, (by kernel_rfl)⟩, (by kernel_rfl)⟩, (by kernel_rfl)⟩
theorem fnExactIsStill_nm : Tryd.pinned.checked.prog.funcNamed Rows.fnExactIsStillRow.func = some 9 := by kernel_rfl
theorem fnExactIsStill_rd : ∀ t ∈ Tryd.f9.params.toList, Tryd.prog.readableRec t = true ∧ t < Tryd.prog.types.size := by rw [Tryd.params9]; exact (by decide +kernel)
theorem fnExactIsStill_ok (os : Os) : Input.okWideB Tryd.checked.prog ((World.doorLaid Tryd.prog 400 os).forCall (fun _ _ => 0) ⟨#[], fnExactIsStill_w, []⟩) 9 ⟨#[], fnExactIsStill_w, []⟩ = true := by kernel_rfl
theorem fnExactIsStill_pb (os : Os) (H : Type) (enc : TypeId × Value → H) : Rows.fnExactIsStillSpec.preB enc Tryd.checked.prog Tryd.f9 [] false ((World.doorLaid Tryd.prog 400 os).forCall (fun _ _ => 0) ⟨#[], fnExactIsStill_w, []⟩).memory fnExactIsStill_w 16 = true := by kernel_rfl
theorem fnExactIsStill_sb (os : Os) (H : Type) (enc : TypeId × Value → H) : Rows.fnExactIsStillSpec.sizedB enc Tryd.checked.prog Tryd.f9 false ((World.doorLaid Tryd.prog 400 os).forCall (fun _ _ => 0) ⟨#[], fnExactIsStill_w, []⟩).memory fnExactIsStill_w 16 = true := by kernel_rfl
theorem fnExactIsStill_sh (os : Os) : ((World.doorLaid Tryd.prog 400 os).forCall (fun _ _ => 0) ⟨#[], fnExactIsStill_w, []⟩).Shaped Tryd.checked.prog := World.shaped_of_B (by kernel_rfl) (by kernel_rfl)
theorem fnExactIsStill_row : Rows.FnExactIsStillSaid :=
  OpenClaim.holds_of_wide 9 Tryd.f9 rfl rfl rfl rfl rfl rfl rfl ⟨rfl, rfl, rfl, rfl, rfl⟩ rfl rfl rfl rfl rfl fnExactIsStill_nm Tryd.func9 fnExactIsStill_jf
    (of_decide_eq_true (by kernel_rfl)) (by unfold Func.isWrapper; first | (rw [if_pos (by decide +kernel)]; kernel_rfl) | (rw [if_neg (by decide +kernel)]; exact ⟨rfl, rfl⟩))
    (fun os started H enc _ => liftT 9 Tryd.f9 Rows.fnExactIsStillSpec Tryd.func9 rfl rfl
      (fun H ds h => match ds, h with | [d0, d1], _ => rfl)
      fnExactIsStill_rd
      fnExactIsStill_walk os started H enc (by kernel_rfl)
      (witnessT 9 Tryd.f9 Rows.fnExactIsStillSpec fnExactIsStill_w os H enc (fnExactIsStill_sh os) (fnExactIsStill_ok os) (fnExactIsStill_pb os H enc) (fnExactIsStill_sb os H enc)))

set_option maxRecDepth 100000 in
theorem fnExactIsStill_holds : Rows.FnExactIsStillCardSaid :=
  Claim7.holds_tied_plain_at .later [] [.data] true Rows.fnExactIsStillCard.stood.harness Rows.fnExactIsStillCard.stood.looks
    fnExactIsStill_row (fun _ h => by cases h) (by kernel_rfl) (fun _ h => by cases h) fnExactIsStill_row_tie rfl ⟨rfl, rfl⟩ seat_mi (by kernel_rfl)
    (fun f fn hf hfn => by
      obtain rfl : f = 9 := Option.some.inj ((show Tryd.prog.funcNamed "loop.example/g01288/laws.FnExactIsStill" = some 9 by kernel_rfl).symm.trans hf) |>.symm
      obtain rfl : fn = Tryd.f9 := (Option.some.inj (Tryd.func9.symm.trans hfn)).symm
      refine ⟨by kernel_rfl, fun j t ht => ?_⟩
      have hall : Tryd.f9.params.toList.all (fun t => !Tryd.prog.wantsStandIn t) = true := by kernel_rfl
      have hm : t ∈ Tryd.f9.params.toList := Array.mem_toList_iff.2 (Array.mem_of_getElem? ht)
      have h := List.all_eq_true.1 hall t hm
      simp only [Bool.not_eq_true'] at h
      exact h)
    (by kernel_rfl)
#print axioms fnExactIsStill_holds
end Go.Proofs.YtdhnneidkdoplaaDoor
