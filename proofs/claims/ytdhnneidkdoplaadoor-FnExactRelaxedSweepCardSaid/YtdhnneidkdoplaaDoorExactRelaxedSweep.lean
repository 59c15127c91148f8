/- The law FnExactRelaxedSweep of this commit: for every input the call returns true, and each argument reads afterwards as it read before. Condition: the table of math/bits is as its initialiser lays it (the card ties it to the program's text). -/
import Derived.Test.YtdhnneidkdoplaaDoorLawRelaxedSweep
import Derived.Test.YtdhnneidkdoplaaDoorSeat
import Derived.Test.YtdhnneidkdoplaaDoorCards
import Derived.Test.YtdhnneidkdoplaaDoorTie
import Derived.SevenTiedAt
namespace Go.Proofs.YtdhnneidkdoplaaDoor
open Go.ChangeShapes Go.WideShapes Go.ChangeAt Go.RowKit

set_option maxRecDepth 100000
def fnExactRelaxedSweep_w : Array Value := #[.agg #[.int .i8 0, .int .i8 0, .float .f32 0, .float .f32 0, .float .f32 0, .float .f32 0, .float .f32 0, .float .f32 0, .float .f32 0, .float .f32 0, .float .f32 0, .float .f32 0, .float .f32 0, .float .f32 0, .float .f32 0, .float .f32 0, .float .f32 0, .float .f32 0, .float .f32 0, .float .f32 0, .float .f32 0, .float .f32 0, .float .f32 0, .float .f32 0, .float .f32 0, .float .f32 0, .float .f32 0, .float .f32 0, .float .f32 0, .float .f32 0, .float .f32 0, .float .f32 0, .float .f32 0, .float .f32 0, .float .f32 0, .float .f32 0, .float .f32 0, .float .f32 0, .float .f32 0, .float .f32 0, .float .f32 0, .float .f32 0, .float .f32 0, .float .f32 0, .float .f32 0, .float .f32 0, .float .f32 0, .float .f32 0, .float .f32 0, .float .f32 0, .float .f32 0, .float .f32 0, .float .f32 0, .float .f32 0, .float .f32 0, .float .f32 0, .float .f32 0, .float .f32 0, .float .f32 0, .float .f32 0, .float .f32 0, .float .f32 0, .float .f32 0, .float .f32 0, .float .f32 0, .float .f32 0, .float .f32 0, .float .f32 0, .float .f32 0, .float .f32 0, .float .f32 0, .float .f32 0, .float .f32 0, .float .f32 0, .float .f32 0, .float .f32 0, .float .f32 0, .float .f32 0, .float .f32 0, .float .f32 0, .float .f32 0, .float .f32 0, .float .f32 0, .float .f32 0, .float .f32 0, .float .f32 0, .float .f32 0, .float .f32 0, .float .f32 0, .float .f32 0, .float .f32 0, .float .f32 0, .float .f32 0, .float .f32 0, .float .f32 0, .float .f32 0, .float .f32 0, .float .f32 0, .float .f32 0, .float .f32 0, .float .f32 0, .float .f32 0, .float .f32 0, .float .f32 0, .float .f32 0, .float .f32 0, .float .f32 0, .float .f32 0, .float .f32 0, .float .f32 0, .float .f32 0, .float .f32 0, .float .f32 0, .float .f32 0, .float .f32 0, .float .f32 0, .float .f32 0, .float .f32 0, .float .f32 0, .float .f32 0, .float .f32 0, .float .f32 0, .float .f32 0, .float .f32 0, .float .f32 0, .float .f32 0, .float .f32 0, .float .f32 0, .float .f32 0, .float .f32 0, .float .f32 0, .float .f32 0, .float .f32 0, .float .f32 0, .float .f32 0, .float .f32 0, .float .f32 0, .float .f32 0, .float .f32 0, .float .f32 0, .float .f32 0, .float .f32 0, .float .f32 0, .float .f32 0, .float .f32 0, .float .f32 0, .float .f32 0, .float .f32 0, .float .f32 0, .float .f32 0, .float .f32 0, .float .f32 0, .float .f32 0, .float .f32 0, .float .f32 0, .float .f32 0, .float .f32 0, .float .f32 0, .float .f32 0, .float .f32 0, .float .f32 0, .float .f32 0, .float .f32 0, .float .f32 0, .float .f32 0, .float .f32 0, .float .f32 0, .float .f32 0, .float .f32 0, .float .f32 0, .float .f32 0, .float .f32 0, .float .f32 0, .float .f32 0, .float .f32 0, .float .f32 0, .float .f32 0, .float .f32 0, .float .f32 0, .float .f32 0, .float .f32 0, .float .f32 0, .float .f32 0, .float .f32 0, .float .f32 0, .float .f32 0, .float .f32 0, .float .f32 0, .float .f32 0, .float .f32 0, .float .f32 0, .float .f32 0, .float .f32 0, .float .f32 0, .int .u64 0], .float .f32 0]
theorem fnExactRelaxedSweep_j0 : (Rows.fnExactRelaxedSweepRow.inPlace == Tryd.prog.inPlace 14) = true := by kernel_rfl
theorem fnExactRelaxedSweep_j1 : (Rows.fnExactRelaxedSweepRow.unfollowed == Tryd.prog.unfollowed 14) = true := by kernel_rfl
theorem fnExactRelaxedSweep_j2 : (Rows.fnExactRelaxedSweepRow.recurses == Tryd.prog.recurses 14) = true := by kernel_rfl
theorem fnExactRelaxedSweep_j3 : (Rows.fnExactRelaxedSweepRow.named == Tryd.prog.varsNamed 14) = true := by kernel_rfl
theorem fnExactRelaxedSweep_jw : Rows.fnExactRelaxedSweepRow.wf (OpenSpec.ofChange Rows.fnExactRelaxedSweepSpec) = true := by kernel_rfl
theorem fnExactRelaxedSweep_jn : namedTie Tryd.prog Rows.fnExactRelaxedSweepRow.named Rows.fnExactRelaxedSweepSpec.vars = true := by kernel_rfl
theorem fnExactRelaxedSweep_jf : joinedFacts Tryd.prog 14 Tryd.f14 Rows.fnExactRelaxedSweepSpec Rows.fnExactRelaxedSweepRow = true := by
  unfold joinedFacts
  simp only [Bool.and_eq_true]
  exact ⟨⟨⟨⟨⟨⟨⟨⟨⟨⟨⟨⟨⟨⟨⟨⟨⟨⟨⟨⟨⟨⟨⟨⟨⟨⟨⟨⟨⟨⟨⟨fnExactRelaxedSweep_jw, laidOut⟩, (by kernel_rfl)⟩, (by kernel_rfl)⟩, fnExactRelaxedSweep_jn⟩, (by kernel_rfl)⟩, (by kernel_rfl)⟩, (by kernel_rfl)⟩, (by kernel_rfl)⟩, fnExactRelaxedSweep_j0⟩, fnExactRelaxedSweep_j1⟩, fnExactRelaxedSweep_j2⟩, fnExactRelaxedSweep_j3⟩, (by kernel_rfl)⟩, (by kernel_rfl)⟩, (by kernel_rfl)⟩, (by kernel_rfl)⟩, (by kernel_rfl)⟩, (by kernel_rfl)⟩, (by kernel_rfl)⟩, (by kernel_rfl)⟩, (by kernel_rfl)⟩, (by kernel_rfl)⟩, (by kernel_rfl)⟩, (by kernel_rfl)⟩, seat_me⟩, seat_lf⟩, seat_mk⟩, (by kernel_rfl)⟩, (by kernel_rfl)⟩, (by kernel_rfl)⟩, (by kernel_rfl)⟩
theorem fnExactRelaxedSweep_nm : Tryd.pinned.checked.prog.funcNamed Rows.fnExactRelaxedSweepRow.func = some 14 := by kernel_rfl
theorem fnExactRelaxedSweep_rd : ∀ t ∈ Tryd.f14.params.toList, Tryd.prog.readableRec t = true ∧ t < Tryd.prog.types.size := by rw [Tryd.params14]; exact (by decide +kernel)
theorem fnExactRelaxedSweep_ok (os : Os) : Input.okWideB Tryd.checked.prog ((World.doorLaid Tryd.prog 400 os).forCall (fun _ _ => 0) ⟨#[], fnExactRelaxedSweep_w, []⟩) 14 ⟨#[], fnExactRelaxedSweep_w, []⟩ = true := by kernel_rfl
theorem fnExactRelaxedSweep_pb (os : Os) (H : Type) (enc : TypeId × Value → H) : Rows.fnExactRelaxedSweepSpec.preB enc Tryd.checked.prog Tryd.f14 [] false ((World.doorLaid Tryd.prog 400 os).forCall (fun _ _ => 0) ⟨#[], fnExactRelaxedSweep_w, []⟩).memory fnExactRelaxedSweep_w 16 = true := by kernel_rfl
theorem fnExactRelaxedSweep_sb (os : Os) (H : Type) (enc : TypeId × Value → H) : Rows.fnExactRelaxedSweepSpec.sizedB enc Tryd.checked.prog Tryd.f14 false ((World.doorLaid Tryd.prog 400 os).forCall (fun _ _ => 0) ⟨#[], fnExactRelaxedSweep_w, []⟩).memory fnExactRelaxedSweep_w 16 = true := by kernel_rfl
theorem fnExactRelaxedSweep_sh (os : Os) : ((World.doorLaid Tryd.prog 400 os).forCall (fun _ _ => 0) ⟨#[], fnExactRelaxedSweep_w, []⟩).Shaped Tryd.checked.prog := World.shaped_of_B (by kernel_rfl) (by kernel_rfl)
theorem fnExactRelaxedSweep_row : Rows.FnExactRelaxedSweepSaid :=
  OpenClaim.holds_of_wide 14 Tryd.f14 rfl rfl rfl rfl rfl rfl rfl ⟨rfl, rfl, rfl, rfl, rfl⟩ rfl rfl rfl rfl rfl fnExactRelaxedSweep_nm Tryd.func14 fnExactRelaxedSweep_jf
    (of_decide_eq_true (by kernel_rfl)) (by unfold Func.isWrapper; first | (rw [if_pos (by decide +kernel)]; kernel_rfl) | (rw [if_neg (by decide +kernel)]; exact ⟨rfl, rfl⟩))
    (fun os started H enc _ => liftT 14 Tryd.f14 Rows.fnExactRelaxedSweepSpec Tryd.func14 rfl rfl
      (fun H ds h => match ds, h with | [d0, d1], _ => rfl)
      fnExactRelaxedSweep_rd
      fnExactRelaxedSweep_walk os started H enc (by kernel_rfl)
      (witnessT 14 Tryd.f14 Rows.fnExactRelaxedSweepSpec fnExactRelaxedSweep_w os H enc (fnExactRelaxedSweep_sh os) (fnExactRelaxedSweep_ok os) (fnExactRelaxedSweep_pb os H enc) (fnExactRelaxedSweep_sb os H enc)))

set_option maxRecDepth 100000 in
theorem fnExactRelaxedSweep_holds : Rows.FnExactRelaxedSweepCardSaid :=
  Claim7.holds_tied_plain_at .later [] [.data] true Rows.fnExactRelaxedSweepCard.stood.harness Rows.fnExactRelaxedSweepCard.stood.looks
    fnExactRelaxedSweep_row (fun _ h => by cases h) (by kernel_rfl) (fun _ h => by cases h) fnExactRelaxedSweep_row_tie rfl ⟨rfl, rfl⟩ seat_mi (by kernel_rfl)
    (fun f fn hf hfn => by
      obtain rfl : f = 14 := Option.some.inj ((show Tryd.prog.funcNamed "loop.example/g01288/laws.FnExactRelaxedSweep" = some 14 by kernel_rfl).symm.trans hf) |>.symm
      obtain rfl : fn = Tryd.f14 := (Option.some.inj (Tryd.func14.symm.trans hfn)).symm
      refine ⟨by kernel_rfl, fun j t ht => ?_⟩
      have hall : Tryd.f14.params.toList.all (fun t => !Tryd.prog.wantsStandIn t) = true := by kernel_rfl
      have hm : t ∈ Tryd.f14.params.toList := Array.mem_toList_iff.2 (Array.mem_of_getElem? ht)
      have h := List.all_eq_true.1 hall t hm
      simp only [Bool.not_eq_true'] at h
      exact h)
    (by kernel_rfl)
#print axioms fnExactRelaxedSweep_holds
end Go.Proofs.YtdhnneidkdoplaaDoor
