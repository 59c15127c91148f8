/- The law FnExactSweepBoth of this commit: for every input the call returns true, and each argument reads afterwards as it read before. Condition: the table of math/bits is as its initialiser lays it (the card ties it to the program's text). -/
import Derived.Test.YtdhnneidkdoplaaDoorLawSweepBoth
import Derived.Test.YtdhnneidkdoplaaDoorSeat
import Derived.Test.YtdhnneidkdoplaaDoorCards
import Derived.Test.YtdhnneidkdoplaaDoorTie
import Derived.SevenTiedAt
namespace Go.Proofs.YtdhnneidkdoplaaDoor
open Go.ChangeShapes Go.WideShapes Go.ChangeAt Go.RowKit

set_option maxRecDepth 100000
def fnExactSweepBoth_w : Array Value := #[.agg #[.int .i8 0, .int .i8 0, .float .f32 0, .float .f32 0, .float .f32 0, .float .f32 0, .float .f32 0, .float .f32 0, .float .f32 0, .float .f32 0, .float .f32 0, .float .f32 0, .float .f32 0, .float .f32 0, .float .f32 0, .float .f32 0, .float .f32 0, .float .f32 0, .float .f32 0, .float .f32 0, .float .f32 0, .float .f32 0, .float .f32 0, .float .f32 0, .float .f32 0, .float .f32 0, .float .f32 0, .float .f32 0, .float .f32 0, .float .f32 0, .float .f32 0, .float .f32 0, .float .f32 0, .float .f32 0, .float .f32 0, .float .f32 0, .float .f32 0, .float .f32 0, .float .f32 0, .float .f32 0, .float .f32 0, .float .f32 0, .float .f32 0, .float .f32 0, .float .f32 0, .float .f32 0, .float .f32 0, .float .f32 0, .float .f32 0, .float .f32 0, .float .f32 0, .float .f32 0, .float .f32 0, .float .f32 0, .float .f32 0, .float .f32 0, .float .f32 0, .float .f32 0, .float .f32 0, .float .f32 0, .float .f32 0, .float .f32 0, .float .f32 0, .float .f32 0, .float .f32 0, .float .f32 0, .float .f32 0, .float .f32 0, .float .f32 0, .float .f32 0, .float .f32 0, .float .f32 0, .float .f32 0, .float .f32 0, .float .f32 0, .float .f32 0, .float .f32 0, .float .f32 0, .float .f32 0, .float .f32 0, .float .f32 0, .float .f32 0, .float .f32 0, .float .f32 0, .float .f32 0, .float .f32 0, .float .f32 0, .float .f32 0, .float .f32 0, .float .f32 0, .float .f32 0, .float .f32 0, .float .f32 0, .float .f32 0, .float .f32 0, .float .f32 0, .float .f32 0, .float .f32 0, .float .f32 0, .float .f32 0, .float .f32 0, .float .f32 0, .float .f32 0, .float .f32 0, .float .f32 0, .float .f32 0, .float .f32 0, .float .f32 0, .float .f32 0, .float .f32 0, .float .f32 0, .float .f32 0, .float .f32 0, .float .f32 0, .float .f32 0, .float .f32 0, .float .f32 0, .float .f32 0, .float .f32 0, .float .f32 0, .float .f32 0, .float .f32 0, .float .f32 0, .float .f32 0, .float .f32 0, .float .f32 0, .float .f32 0, .float .f32 0, .float .f32 0, .float .f32 0, .float .f32 0, .float .f32 0, .float .f32 0, .float .f32 0, .float .f32 0, .float .f32 0, .float .f32 0, .float .f32 0, .float .f32 0, .float .f32 0, .float .f32 0, .float .f32 0, .float .f32 0, .float .f32 0, .float .f32 0, .float .f32 0, .float .f32 0, .float .f32 0, .float .f32 0, .float .f32 0, .float .f32 0, .float .f32 0, .float .f32 0, .float .f32 0, .float .f32 0, .float .f32 0, .float .f32 0, .float .f32 0, .float .f32 0, .float .f32 0, .float .f32 0, .float .f32 0, .float .f32 0, .float .f32 0, .float .f32 0, .float .f32 0, .float .f32 0, .float .f32 0, .float .f32 0, .float .f32 0, .float .f32 0, .float .f32 0, .float .f32 0, .float .f32 0, .float .f32 0, .float .f32 0, .float .f32 0, .float .f32 0, .float .f32 0, .float .f32 0, .float .f32 0, .float .f32 0, .float .f32 0, .float .f32 0, .float .f32 0, .float .f32 0, .float .f32 0, .float .f32 0, .float .f32 0, .float .f32 0, .float .f32 0, .float .f32 0, .float .f32 0, .float .f32 0, .int .u64 0]]
theorem fnExactSweepBoth_j0 : (Rows.fnExactSweepBothRow.inPlace == Tryd.prog.inPlace 13) = true := by kernel_rfl
theorem fnExactSweepBoth_j1 : (Rows.fnExactSweepBothRow.unfollowed == Tryd.prog.unfollowed 13) = true := by kernel_rfl
theorem fnExactSweepBoth_j2 : (Rows.fnExactSweepBothRow.recurses == Tryd.prog.recurses 13) = true := by kernel_rfl
theorem fnExactSweepBoth_j3 : (Rows.fnExactSweepBothRow.named == Tryd.prog.varsNamed 13) = true := by kernel_rfl
theorem fnExactSweepBoth_jw : Rows.fnExactSweepBothRow.wf (OpenSpec.ofChange Rows.fnExactSweepBothSpec) = true := by kernel_rfl
theorem fnExactSweepBoth_jn : namedTie Tryd.prog Rows.fnExactSweepBothRow.named Rows.fnExactSweepBothSpec.vars = true := by kernel_rfl
theorem fnExactSweepBoth_jf : joinedFacts Tryd.prog 13 Tryd.f13 Rows.fnExactSweepBothSpec Rows.fnExactSweepBothRow = true := by
  unfold joinedFacts
  simp only [Bool.and_eq_true]
  exact ⟨⟨⟨⟨⟨⟨⟨⟨⟨⟨⟨⟨⟨⟨⟨⟨⟨⟨⟨⟨⟨⟨⟨⟨⟨⟨⟨⟨⟨⟨⟨fnExactSweepBoth_jw, laidOut⟩, (by kernel_rfl)⟩, (by kernel_rfl)⟩, fnExactSweepBoth_jn⟩, (by kernel_rfl)⟩, (by kernel_rfl)⟩, (by kernel_rfl)⟩, (by kernel_rfl)⟩, fnExactSweepBoth_j0⟩, fnExactSweepBoth_j1⟩, fnExactSweepBoth_j2⟩, fnExactSweepBoth_j3⟩, (by kernel_rfl)⟩, (by kernel_rfl)⟩, (by kernel_rfl)⟩, (by kernel_rfl)⟩, (by kernel_rfl)⟩, (by kernel_rfl)⟩, (by kernel_rfl)⟩, (by kernel_rfl)⟩, (by kernel_rfl)⟩, (by kernel_rfl)⟩, (by kernel_rfl)⟩, (by kernel_rfl)⟩, seat_me⟩, seat_lf⟩, seat_mk⟩, (by kernel_rfl)⟩, (by kernel_rfl)⟩, (by kernel_rfl)⟩, (by kernel_rfl)⟩
theorem fnExactSweepBoth_nm : Tryd.pinned.checked.prog.funcNamed Rows.fnExactSweepBothRow.func = some 13 := by kernel_rfl
theorem fnExactSweepBoth_rd : ∀ t ∈ Tryd.f13.params.toList, Tryd.prog.readableRec t = true ∧ t < Tryd.prog.types.size := by rw [Tryd.params13]; exact (by decide +kernel)
theorem fnExactSweepBoth_ok (os : Os) : Input.okWideB Tryd.checked.prog ((World.doorLaid Tryd.prog 400 os).forCall (fun _ _ => 0) ⟨#[], fnExactSweepBoth_w, []⟩) 13 ⟨#[], fnExactSweepBoth_w, []⟩ = true := by kernel_rfl
theorem fnExactSweepBoth_pb (os : Os) (H : Type) (enc : TypeId × Value → H) : Rows.fnExactSweepBothSpec.preB enc Tryd.checked.prog Tryd.f13 [] false ((World.doorLaid Tryd.prog 400 os).forCall (fun _ _ => 0) ⟨#[], fnExactSweepBoth_w, []⟩).memory fnExactSweepBoth_w 16 = true := by kernel_rfl
theorem fnExactSweepBoth_sb (os : Os) (H : Type) (enc : TypeId × Value → H) : Rows.fnExactSweepBothSpec.sizedB enc Tryd.checked.prog Tryd.f13 false ((World.doorLaid Tryd.prog 400 os).forCall (fun _ _ => 0) ⟨#[], fnExactSweepBoth_w, []⟩).memory fnExactSweepBoth_w 16 = true := by kernel_rfl
theorem fnExactSweepBoth_sh (os : Os) : ((World.doorLaid Tryd.prog 400 os).forCall (fun _ _ => 0) ⟨#[], fnExactSweepBoth_w, []⟩).Shaped Tryd.checked.prog := World.shaped_of_B (by kernel_rfl) (by kernel_rfl)
theorem fnExactSweepBoth_row : Rows.FnExactSweepBothSaid :=
  OpenClaim.holds_of_wide 13 Tryd.f13 rfl rfl rfl rfl rfl rfl rfl ⟨rfl, rfl, rfl, rfl, rfl⟩ rfl rfl rfl rfl rfl fnExactSweepBoth_nm Tryd.func13 fnExactSweepBoth_jf
    (of_decide_eq_true (by kernel_rfl)) (by unfold Func.isWrapper; first | (rw [if_pos (by decide +kernel)]; kernel_rfl) | (rw [if_neg (by decide +kernel)]; exact ⟨rfl, rfl⟩))
    (fun os started H enc _ => liftT 13 Tryd.f13 Rows.fnExactSweepBothSpec Tryd.func13 rfl rfl
      (fun H ds h => match ds, h with | [d0], _ => rfl)
      fnExactSweepBoth_rd
      fnExactSweepBoth_walk os started H enc (by kernel_rfl)
      (witnessT 13 Tryd.f13 Rows.fnExactSweepBothSpec fnExactSweepBoth_w os H enc (fnExactSweepBoth_sh os) (fnExactSweepBoth_ok os) (fnExactSweepBoth_pb os H enc) (fnExactSweepBoth_sb os H enc)))

set_option maxRecDepth 100000 in
theorem fnExactSweepBoth_holds : Rows.FnExactSweepBothCardSaid :=
  Claim7.holds_tied_plain_at .later [] [.data] true Rows.fnExactSweepBothCard.stood.harness Rows.fnExactSweepBothCard.stood.looks
    fnExactSweepBoth_row (fun _ h => by cases h) (by kernel_rfl) (fun _ h => by cases h) fnExactSweepBoth_row_tie rfl ⟨rfl, rfl⟩ seat_mi (by kernel_rfl)
    (fun f fn hf hfn => by
      obtain rfl : f = 13 := Option.some.inj ((show Tryd.prog.funcNamed "loop.example/g01288/laws.FnExactSweepBoth" = some 13 by kernel_rfl).symm.trans hf) |>.symm
      obtain rfl : fn = Tryd.f13 := (Option.some.inj (Tryd.func13.symm.trans hfn)).symm
      refine ⟨by kernel_rfl, fun j t ht => ?_⟩
      have hall : Tryd.f13.params.toList.all (fun t => !Tryd.prog.wantsStandIn t) = true := by kernel_rfl
      have hm : t ∈ Tryd.f13.params.toList := Array.mem_toList_iff.2 (Array.mem_of_getElem? ht)
      have h := List.all_eq_true.1 hall t hm
      simp only [Bool.not_eq_true'] at h
      exact h)
    (by kernel_rfl)
#print axioms fnExactSweepBoth_holds
end Go.Proofs.YtdhnneidkdoplaaDoor
