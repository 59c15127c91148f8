/- The law FnExactSweepColour of this commit: for every input the call returns true, and each argument reads afterwards as it read before. Condition: the table of math/bits is as its initialiser lays it (the card ties it to the program's text). -/
import Derived.Test.YtdhnneidkdoplaaDoorLawSweepColour
import Derived.Test.YtdhnneidkdoplaaDoorSeat
import Derived.Test.YtdhnneidkdoplaaDoorCards
import Derived.Test.YtdhnneidkdoplaaDoorTie
import Derived.SevenTiedAt
namespace Go.Proofs.YtdhnneidkdoplaaDoor
open Go.ChangeShapes Go.WideShapes Go.ChangeAt Go.RowKit

set_option maxRecDepth 100000
def fnExactSweepColour_w : Array Value := #[.agg #[.int .i8 0, .int .i8 0, .float .f32 0, .float .f32 0, .float .f32 0, .float .f32 0, .float .f32 0, .float .f32 0, .float .f32 0, .float .f32 0, .float .f32 0, .float .f32 0, .float .f32 0, .float .f32 0, .float .f32 0, .float .f32 0, .float .f32 0, .float .f32 0, .float .f32 0, .float .f32 0, .float .f32 0, .float .f32 0, .float .f32 0, .float .f32 0, .float .f32 0, .float .f32 0, .float .f32 0, .float .f32 0, .float .f32 0, .float .f32 0, .float .f32 0, .float .f32 0, .float .f32 0, .float .f32 0, .float .f32 0, .float .f32 0, .float .f32 0, .float .f32 0, .float .f32 0, .float .f32 0, .float .f32 0, .float .f32 0, .float .f32 0, .float .f32 0, .float .f32 0, .float .f32 0, .float .f32 0, .float .f32 0, .float .f32 0, .float .f32 0, .float .f32 0, .float .f32 0, .float .f32 0, .float .f32 0, .float .f32 0, .float .f32 0, .float .f32 0, .float .f32 0, .float .f32 0, .float .f32 0, .float .f32 0, .float .f32 0, .float .f32 0, .float .f32 0, .float .f32 0, .float .f32 0, .float .f32 0, .float .f32 0, .float .f32 0, .float .f32 0, .float .f32 0, .float .f32 0, .float .f32 0, .float .f32 0, .float .f32 0, .float .f32 0, .float .f32 0, .float .f32 0, .float .f32 0, .float .f32 0, .float .f32 0, .float .f32 0, .float .f32 0, .float .f32 0, .float .f32 0, .float .f32 0, .float .f32 0, .float .f32 0, .float .f32 0, .float .f32 0, .float .f32 0, .float .f32 0, .float .f32 0, .float .f32 0, .float .f32 0, .float .f32 0, .float .f32 0, .float .f32 0, .float .f32 0, .float .f32 0, .float .f32 0, .float .f32 0, .float .f32 0, .float .f32 0, .float .f32 0, .float .f32 0, .float .f32 0, .float .f32 0, .float .f32 0, .float .f32 0, .float .f32 0, .float .f32 0, .float .f32 0, .float .f32 0, .float .f32 0, .float .f32 0, .float .f32 0, .float .f32 0, .float .f32 0, .float .f32 0, .float .f32 0, .float .f32 0, .float .f32 0, .float .f32 0, .float .f32 0, .float .f32 0, .float .f32 0, .float .f32 0, .float .f32 0, .float .f32 0, .float .f32 0, .float .f32 0, .float .f32 0, .float .f32 0, .float .f32 0, .float .f32 0, .float .f32 0, .float .f32 0, .float .f32 0, .float .f32 0, .float .f32 0, .float .f32 0, .float .f32 0, .float .f32 0, .float .f32 0, .float .f32 0, .float .f32 0, .float .f32 0, .float .f32 0, .float .f32 0, .float .f32 0, .float .f32 0, .float .f32 0, .float .f32 0, .float .f32 0, .float .f32 0, .float .f32 0, .float .f32 0, .float .f32 0, .float .f32 0, .float .f32 0, .float .f32 0, .float .f32 0, .float .f32 0, .float .f32 0, .float .f32 0, .float .f32 0, .float .f32 0, .float .f32 0, .float .f32 0, .float .f32 0, .float .f32 0, .float .f32 0, .float .f32 0, .float .f32 0, .float .f32 0, .float .f32 0, .float .f32 0, .float .f32 0, .float .f32 0, .float .f32 0, .float .f32 0, .float .f32 0, .float .f32 0, .float .f32 0, .float .f32 0, .float .f32 0, .float .f32 0, .float .f32 0, .float .f32 0, .float .f32 0, .float .f32 0, .float .f32 0, .float .f32 0, .int .u64 0], .int .i64 0]
theorem fnExactSweepColour_j0 : (Rows.fnExactSweepColourRow.inPlace == Tryd.prog.inPlace 12) = true := by kernel_rfl
theorem fnExactSweepColour_j1 : (Rows.fnExactSweepColourRow.unfollowed == Tryd.prog.unfollowed 12) = true := by kernel_rfl
theorem fnExactSweepColour_j2 : (Rows.fnExactSweepColourRow.recurses == Tryd.prog.recurses 12) = true := by kernel_rfl
theorem fnExactSweepColour_j3 : (Rows.fnExactSweepColourRow.named == Tryd.prog.varsNamed 12) = true := by kernel_rfl
theorem fnExactSweepColour_jw : Rows.fnExactSweepColourRow.wf (OpenSpec.ofChange Rows.fnExactSweepColourSpec) = true := by kernel_rfl
theorem fnExactSweepColour_jn : namedTie Tryd.prog Rows.fnExactSweepColourRow.named Rows.fnExactSweepColourSpec.vars = true := by kernel_rfl
theorem fnExactSweepColour_jf : joinedFacts Tryd.prog 12 Tryd.f12 Rows.fnExactSweepColourSpec Rows.fnExactSweepColourRow = true := by
  unfold joinedFacts
  simp only [Bool.and_eq_true]
  exact ⟨⟨⟨⟨⟨⟨⟨⟨⟨⟨⟨⟨⟨⟨⟨⟨⟨⟨⟨⟨⟨⟨⟨⟨⟨⟨⟨⟨⟨⟨⟨fnExactSweepColour_jw, laidOut⟩, (by kernel_rfl)⟩, (by kernel_rfl)⟩, fnExactSweepColour_jn⟩, (by kernel_rfl)⟩, (by kernel_rfl)⟩, (by kernel_rfl)⟩, (by kernel_rfl)⟩, fnExactSweepColour_j0⟩, fnExactSweepColour_j1⟩, fnExactSweepColour_j2⟩, fnExactSweepColour_j3⟩, (by kernel_rfl)⟩, (by kernel_rfl)⟩, (by kernel_rfl)⟩, (by kernel_rfl)⟩, (by kernel_rfl)⟩, (by kernel_rfl)⟩, (by kernel_rfl)⟩, (by kernel_rfl)⟩, (by kernel_rfl)⟩, (by kernel_rfl)⟩, (by kernel_rfl)⟩, (by kernel_rfl)⟩, seat_me⟩, seat_lf⟩, seat_mk⟩, (by kernel_rfl)⟩, (by kernel_rfl)⟩, (by kernel_rfl)⟩, (by kernel_rfl)⟩
theorem fnExactSweepColour_nm : Tryd.pinned.checked.prog.funcNamed Rows.fnExactSweepColourRow.func = some 12 := by kernel_rfl
theorem fnExactSweepColour_rd : ∀ t ∈ Tryd.f12.params.toList, Tryd.prog.readableRec t = true ∧ t < Tryd.prog.types.size := by rw [Tryd.params12]; exact (by decide +kernel)
theorem fnExactSweepColour_ok (os : Os) : Input.okWideB Tryd.checked.prog ((World.doorLaid Tryd.prog 400 os).forCall (fun _ _ => 0) ⟨#[], fnExactSweepColour_w, []⟩) 12 ⟨#[], fnExactSweepColour_w, []⟩ = true := by kernel_rfl
theorem fnExactSweepColour_pb (os : Os) (H : Type) (enc : TypeId × Value → H) : Rows.fnExactSweepColourSpec.preB enc Tryd.checked.prog Tryd.f12 [] false ((World.doorLaid Tryd.prog 400 os).forCall (fun _ _ => 0) ⟨#[], fnExactSweepColour_w, []⟩).memory fnExactSweepColour_w 16 = true := by kernel_rfl
theorem fnExactSweepColour_sb (os : Os) (H : Type) (enc : TypeId × Value → H) : Rows.fnExactSweepColourSpec.sizedB enc Tryd.checked.prog Tryd.f12 false ((World.doorLaid Tryd.prog 400 os).forCall (fun _ _ => 0) ⟨#[], fnExactSweepColour_w, []⟩).memory fnExactSweepColour_w 16 = true := by kernel_rfl
theorem fnExactSweepColour_sh (os : Os) : ((World.doorLaid Tryd.prog 400 os).forCall (fun _ _ => 0) ⟨#[], fnExactSweepColour_w, []⟩).Shaped Tryd.checked.prog := World.shaped_of_B (by kernel_rfl) (by kernel_rfl)
theorem fnExactSweepColour_row : Rows.FnExactSweepColourSaid :=
  OpenClaim.holds_of_wide 12 Tryd.f12 rfl rfl rfl rfl rfl rfl rfl ⟨rfl, rfl, rfl, rfl, rfl⟩ rfl rfl rfl rfl rfl fnExactSweepColour_nm Tryd.func12 fnExactSweepColour_jf
    (of_decide_eq_true (by kernel_rfl)) (by unfold Func.isWrapper; first | (rw [if_pos (by decide +kernel)]; kernel_rfl) | (rw [if_neg (by decide +kernel)]; exact ⟨rfl, rfl⟩))
    (fun os started H enc _ => liftT 12 Tryd.f12 Rows.fnExactSweepColourSpec Tryd.func12 rfl rfl
      (fun H ds h => match ds, h with | [d0, d1], _ => rfl)
      fnExactSweepColour_rd
      fnExactSweepColour_walk os started H enc (by kernel_rfl)
      (witnessT 12 Tryd.f12 Rows.fnExactSweepColourSpec fnExactSweepColour_w os H enc (fnExactSweepColour_sh os) (fnExactSweepColour_ok os) (fnExactSweepColour_pb os H enc) (fnExactSweepColour_sb os H enc)))

set_option maxRecDepth 100000 in
theorem fnExactSweepColour_holds : Rows.FnExactSweepColourCardSaid :=
  Claim7.holds_tied_plain_at .later [] [.data] true Rows.fnExactSweepColourCard.stood.harness Rows.fnExactSweepColourCard.stood.looks
    fnExactSweepColour_row (fun _ h => by cases h) (by kernel_rfl) (fun _ h => by cases h) fnExactSweepColour_row_tie rfl ⟨rfl, rfl⟩ seat_mi (by kernel_rfl)
    (fun f fn hf hfn => by
      obtain rfl : f = 12 := Option.some.inj ((show Tryd.prog.funcNamed "loop.example/g01288/laws.FnExactSweepColour" = some 12 by kernel_rfl).symm.trans hf) |>.symm
      obtain rfl : fn = Tryd.f12 := (Option.some.inj (Tryd.func12.symm.trans hfn)).symm
      refine ⟨by kernel_rfl, fun j t ht => ?_⟩
      have hall : Tryd.f12.params.toList.all (fun t => !Tryd.prog.wantsStandIn t) = true := by kernel_rfl
      have hm : t ∈ Tryd.f12.params.toList := Array.mem_toList_iff.2 (Array.mem_of_getElem? ht)
      have h := List.all_eq_true.1 hall t hm
      simp only [Bool.not_eq_true'] at h
      exact h)
    (by kernel_rfl)
#print axioms fnExactSweepColour_holds
end Go.Proofs.YtdhnneidkdoplaaDoor
