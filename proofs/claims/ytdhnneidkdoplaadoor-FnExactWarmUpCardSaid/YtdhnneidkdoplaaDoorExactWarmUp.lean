/- The law FnExactWarmUp of this commit: for every input the call returns true, and each argument reads afterwards as it read before. Condition: the table of math/bits is as its initialiser lays it (the card ties it to the program's text). -/
import Derived.Test.YtdhnneidkdoplaaDoorLawWarmUp
import Derived.Test.YtdhnneidkdoplaaDoorSeat
import Derived.Test.YtdhnneidkdoplaaDoorCards
import Derived.Test.YtdhnneidkdoplaaDoorTie
import Derived.SevenTiedAt
namespace Go.Proofs.YtdhnneidkdoplaaDoor
open Go.ChangeShapes Go.WideShapes Go.ChangeAt Go.RowKit

set_option maxRecDepth 100000
def fnExactWarmUp_w : Array Value := #[.agg #[.int .i8 0, .int .i8 0, .float .f32 0, .float .f32 0, .float .f32 0, .float .f32 0, .float .f32 0, .float .f32 0, .float .f32 0, .float .f32 0, .float .f32 0, .float .f32 0, .float .f32 0, .float .f32 0, .float .f32 0, .float .f32 0, .float .f32 0, .float .f32 0, .float .f32 0, .float .f32 0, .float .f32 0, .float .f32 0, .float .f32 0, .float .f32 0, .float .f32 0, .float .f32 0, .float .f32 0, .float .f32 0, .float .f32 0, .float .f32 0, .float .f32 0, .float .f32 0, .float .f32 0, .float .f32 0, .float .f32 0, .float .f32 0, .float .f32 0, .float .f32 0, .float .f32 0, .float .f32 0, .float .f32 0, .float .f32 0, .float .f32 0, .float .f32 0, .float .f32 0, .float .f32 0, .float .f32 0, .float .f32 0, .float .f32 0, .float .f32 0, .float .f32 0, .float .f32 0, .float .f32 0, .float .f32 0, .float .f32 0, .float .f32 0, .float .f32 0, .float .f32 0, .float .f32 0, .float .f32 0, .float .f32 0, .float .f32 0, .float .f32 0, .float .f32 0, .float .f32 0, .float .f32 0, .float .f32 0, .float .f32 0, .float .f32 0, .float .f32 0, .float .f32 0, .float .f32 0, .float .f32 0, .float .f32 0, .float .f32 0, .float .f32 0, .float .f32 0, .float .f32 0, .float .f32 0, .float .f32 0, .float .f32 0, .float .f32 0, .float .f32 0, .float .f32 0, .float .f32 0, .float .f32 0, .float .f32 0, .float .f32 0, .float .f32 0, .float .f32 0, .float .f32 0, .float .f32 0, .float .f32 0, .float .f32 0, .float .f32 0, .float .f32 0, .float .f32 0, .float .f32 0, .float .f32 0, .float .f32 0, .float .f32 0, .float .f32 0, .float .f32 0, .float .f32 0, .float .f32 0, .float .f32 0, .float .f32 0, .float .f32 0, .float .f32 0, .float .f32 0, .float .f32 0, .float .f32 0, .float .f32 0, .float .f32 0, .float .f32 0, .float .f32 0, .float .f32 0, .float .f32 0, .float .f32 0, .float .f32 0, .float .f32 0, .float .f32 0, .float .f32 0, .float .f32 0, .float .f32 0, .float .f32 0, .float .f32 0, .float .f32 0, .float .f32 0, .float .f32 0, .float .f32 0, .float .f32 0, .float .f32 0, .float .f32 0, .float .f32 0, .float .f32 0, .float .f32 0, .float .f32 0, .float .f32 0, .float .f32 0, .float .f32 0, .float .f32 0, .float .f32 0, .float .f32 0, .float .f32 0, .float .f32 0, .float .f32 0, .float .f32 0, .float .f32 0, .float .f32 0, .float .f32 0, .float .f32 0, .float .f32 0, .float .f32 0, .float .f32 0, .float .f32 0, .float .f32 0, .float .f32 0, .float .f32 0, .float .f32 0, .float .f32 0, .float .f32 0, .float .f32 0, .float .f32 0, .float .f32 0, .float .f32 0, .float .f32 0, .float .f32 0, .float .f32 0, .float .f32 0, .float .f32 0, .float .f32 0, .float .f32 0, .float .f32 0, .float .f32 0, .float .f32 0, .float .f32 0, .float .f32 0, .float .f32 0, .float .f32 0, .float .f32 0, .float .f32 0, .float .f32 0, .float .f32 0, .float .f32 0, .float .f32 0, .float .f32 0, .float .f32 0, .float .f32 0, .float .f32 0, .float .f32 0, .float .f32 0, .float .f32 0, .float .f32 0, .int .u64 0], .float .f32 0]
theorem fnExactWarmUp_j0 : (Rows.fnExactWarmUpRow.inPlace == Tryd.prog.inPlace 6) = true := by kernel_rfl
theorem fnExactWarmUp_j1 : (Rows.fnExactWarmUpRow.unfollowed == Tryd.prog.unfollowed 6) = true := by kernel_rfl
theorem fnExactWarmUp_j2 : (Rows.fnExactWarmUpRow.recurses == Tryd.prog.recurses 6) = true := by kernel_rfl
theorem fnExactWarmUp_j3 : (Rows.fnExactWarmUpRow.named == Tryd.prog.varsNamed 6) = true := by kernel_rfl
theorem fnExactWarmUp_jw : Rows.fnExactWarmUpRow.wf (OpenSpec.ofChange Rows.fnExactWarmUpSpec) = true := by kernel_rfl
theorem fnExactWarmUp_jn : namedTie Tryd.prog Rows.fnExactWarmUpRow.named Rows.fnExactWarmUpSpec.vars = true := by kernel_rfl
theorem fnExactWarmUp_jf : joinedFacts Tryd.prog 6 Tryd.f6 Rows.fnExactWarmUpSpec Rows.fnExactWarmUpRow = true := by
  unfold joinedFacts
  simp only [Bool.and_eq_true]
  exact ⟨⟨⟨⟨⟨⟨⟨⟨⟨⟨⟨⟨⟨⟨⟨⟨⟨⟨⟨⟨⟨⟨⟨⟨⟨⟨⟨⟨⟨⟨⟨fnExactWarmUp_jw, laidOut⟩, (by kernel_rfl)⟩, (by kernel_rfl)⟩, fnExactWarmUp_jn⟩, (by kernel_rfl)⟩, (by kernel_rfl)⟩, (by kernel_rfl)⟩, (by kernel_rfl)⟩, fnExactWarmUp_j0⟩, fnExactWarmUp_j1⟩, fnExactWarmUp_j2⟩, fnExactWarmUp_j3⟩, (by kernel_rfl)⟩, (by kernel_rfl)⟩, (by kernel_rfl)⟩, (by kernel_rfl)⟩, (by kernel_rfl)⟩, (by kernel_rfl)⟩, (by kernel_rfl)⟩, (by kernel_rfl)⟩, (by kernel_rfl)⟩, (by kernel_rfl)⟩, (by kernel_rfl)⟩, (by kernel_rfl)⟩, seat_me⟩, seat_lf⟩, seat_mk⟩, (by kernel_rfl)⟩, (by kernel_rfl)⟩, (by kernel_rfl)⟩, (by kernel_rfl)⟩
theorem fnExactWarmUp_nm : Tryd.pinned.checked.prog.funcNamed Rows.fnExactWarmUpRow.func = some 6 := by kernel_rfl
theorem fnExactWarmUp_rd : ∀ t ∈ Tryd.f6.params.toList, Tryd.prog.readableRec t = true ∧ t < Tryd.prog.types.size := by rw [Tryd.params6]; exact (by decide +kernel)
theorem fnExactWarmUp_ok (os : Os) : Input.okWideB Tryd.checked.prog ((World.doorLaid Tryd.prog 400 os).forCall (fun _ _ => 0) ⟨#[], fnExactWarmUp_w, []⟩) 6 ⟨#[], fnExactWarmUp_w, []⟩ = true := by kernel_rfl
theorem fnExactWarmUp_pb (os : Os) (H : Type) (enc : TypeId × Value → H) : Rows.fnExactWarmUpSpec.preB enc Tryd.checked.prog Tryd.f6 [] false ((World.doorLaid Tryd.prog 400 os).forCall (fun _ _ => 0) ⟨#[], fnExactWarmUp_w, []⟩).memory fnExactWarmUp_w 16 = true := by kernel_rfl
theorem fnExactWarmUp_sb (os : Os) (H : Type) (enc : TypeId × Value → H) : Rows.fnExactWarmUpSpec.sizedB enc Tryd.checked.prog Tryd.f6 false ((World.doorLaid Tryd.prog 400 os).forCall (fun _ _ => 0) ⟨#[], fnExactWarmUp_w, []⟩).memory fnExactWarmUp_w 16 = true := by kernel_rfl
theorem fnExactWarmUp_sh (os : Os) : ((World.doorLaid Tryd.prog 400 os).forCall (fun _ _ => 0) ⟨#[], fnExactWarmUp_w, []⟩).Shaped Tryd.checked.prog := World.shaped_of_B (by kernel_rfl) (by kernel_rfl)
theorem fnExactWarmUp_row : Rows.FnExactWarmUpSaid :=
  OpenClaim.holds_of_wide 6 Tryd.f6 rfl rfl rfl rfl rfl rfl rfl ⟨rfl, rfl, rfl, rfl, rfl⟩ rfl rfl rfl rfl rfl fnExactWarmUp_nm Tryd.func6 fnExactWarmUp_jf
    (of_decide_eq_true (by kernel_rfl)) (by unfold Func.isWrapper; first | (rw [if_pos (by decide +kernel)]; kernel_rfl) | (rw [if_neg (by decide +kernel)]; exact ⟨rfl, rfl⟩))
    (fun os started H enc _ => liftT 6 Tryd.f6 Rows.fnExactWarmUpSpec Tryd.func6 rfl rfl
      (fun H ds h => match ds, h with | [d0, d1], _ => rfl)
      fnExactWarmUp_rd
      fnExactWarmUp_walk os started H enc (by kernel_rfl)
      (witnessT 6 Tryd.f6 Rows.fnExactWarmUpSpec fnExactWarmUp_w os H enc (fnExactWarmUp_sh os) (fnExactWarmUp_ok os) (fnExactWarmUp_pb os H enc) (fnExactWarmUp_sb os H enc)))

set_option maxRecDepth 100000 in
theorem fnExactWarmUp_holds : Rows.FnExactWarmUpCardSaid :=
  Claim7.holds_tied_plain_at .later [] [.data] true Rows.fnExactWarmUpCard.stood.harness Rows.fnExactWarmUpCard.stood.looks
    fnExactWarmUp_row (fun _ h => by cases h) (by kernel_rfl) (fun _ h => by cases h) fnExactWarmUp_row_tie rfl ⟨rfl, rfl⟩ seat_mi (by kernel_rfl)
    (fun f fn hf hfn => by
      obtain rfl : f = 6 := Option.some.inj ((show Tryd.prog.funcNamed "loop.example/g01288/laws.FnExactWarmUp" = some 6 by kernel_rfl).symm.trans hf) |>.symm
      obtain rfl : fn = Tryd.f6 := (Option.some.inj (Tryd.func6.symm.trans hfn)).symm
      refine ⟨by kernel_rfl, fun j t ht => ?_⟩
      have hall : Tryd.f6.params.toList.all (fun t => !Tryd.prog.wantsStandIn t) = true := by kernel_rfl
      have hm : t ∈ Tryd.f6.params.toList := Array.mem_toList_iff.2 (Array.mem_of_getElem? ht)
      have h := List.all_eq_true.1 hall t hm
      simp only [Bool.not_eq_true'] at h
      exact h)
    (by kernel_rfl)
#print axioms fnExactWarmUp_holds
end Go.Proofs.YtdhnneidkdoplaaDoor
