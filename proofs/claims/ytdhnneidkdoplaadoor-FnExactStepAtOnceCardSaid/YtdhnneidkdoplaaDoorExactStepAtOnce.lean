/- The law FnExactStepAtOnce of this commit: for every input the call returns true, and each argument reads afterwards as it read before. Condition: the table of math/bits is as its initialiser lays it (the card ties it to the program's text). -/
import Derived.Test.YtdhnneidkdoplaaDoorLawStepAtOnce
import Derived.Test.YtdhnneidkdoplaaDoorSeat
import Derived.Test.YtdhnneidkdoplaaDoorCards
import Derived.Test.YtdhnneidkdoplaaDoorTie
import Derived.SevenTiedAt
namespace Go.Proofs.YtdhnneidkdoplaaDoor
open Go.ChangeShapes Go.WideShapes Go.ChangeAt Go.RowKit

set_option maxRecDepth 100000
def fnExactStepAtOnce_w : Array Value := #[.agg #[.int .i8 0, .int .i8 0, .float .f32 0, .float .f32 0, .float .f32 0, .float .f32 0, .float .f32 0, .float .f32 0, .float .f32 0, .float .f32 0, .float .f32 0, .float .f32 0, .float .f32 0, .float .f32 0, .float .f32 0, .float .f32 0, .float .f32 0, .float .f32 0, .float .f32 0, .float .f32 0, .float .f32 0, .float .f32 0, .float .f32 0, .float .f32 0, .float .f32 0, .float .f32 0, .float .f32 0, .float .f32 0, .float .f32 0, .float .f32 0, .float .f32 0, .float .f32 0, .float .f32 0, .float .f32 0, .float .f32 0, .float .f32 0, .float .f32 0, .float .f32 0, .float .f32 0, .float .f32 0, .float .f32 0, .float .f32 0, .float .f32 0, .float .f32 0, .float .f32 0, .float .f32 0, .float .f32 0, .float .f32 0, .float .f32 0, .float .f32 0, .float .f32 0, .float .f32 0, .float .f32 0, .float .f32 0, .float .f32 0, .float .f32 0, .float .f32 0, .float .f32 0, .float .f32 0, .float .f32 0, .float .f32 0, .float .f32 0, .float .f32 0, .float .f32 0, .float .f32 0, .float .f32 0, .float .f32 0, .float .f32 0, .float .f32 0, .float .f32 0, .float .f32 0, .float .f32 0, .float .f32 0, .float .f32 0, .float .f32 0, .float .f32 0, .float .f32 0, .float .f32 0, .float .f32 0, .float .f32 0, .float .f32 0, .float .f32 0, .float .f32 0, .float .f32 0, .float .f32 0, .float .f32 0, .float .f32 0, .float .f32 0, .float .f32 0, .float .f32 0, .float .f32 0, .float .f32 0, .float .f32 0, .float .f32 0, .float .f32 0, .float .f32 0, .float .f32 0, .float .f32 0, .float .f32 0, .float .f32 0, .float .f32 0, .float .f32 0, .float .f32 0, .float .f32 0, .float .f32 0, .float .f32 0, .float .f32 0, .float .f32 0, .float .f32 0, .float .f32 0, .float .f32 0, .float .f32 0, .float .f32 0, .float .f32 0, .float .f32 0, .float .f32 0, .float .f32 0, .float .f32 0, .float .f32 0, .float .f32 0, .float .f32 0, .float .f32 0, .float .f32 0, .float .f32 0, .float .f32 0, .float .f32 0, .float .f32 0, .float .f32 0, .float .f32 0, .float .f32 0, .float .f32 0, .float .f32 0, .float .f32 0, .float .f32 0, .float .f32 0, .float .f32 0, .float .f32 0, .float .f32 0, .float .f32 0, .float .f32 0, .float .f32 0, .float .f32 0, .float .f32 0, .float .f32 0, .float .f32 0, .float .f32 0, .float .f32 0, .float .f32 0, .float .f32 0, .float .f32 0, .float .f32 0, .float .f32 0, .float .f32 0, .float .f32 0, .float .f32 0, .float .f32 0, .float .f32 0, .float .f32 0, .float .f32 0, .float .f32 0, .float .f32 0, .float .f32 0, .float .f32 0, .float .f32 0, .float .f32 0, .float .f32 0, .float .f32 0, .float .f32 0, .float .f32 0, .float .f32 0, .float .f32 0, .float .f32 0, .float .f32 0, .float .f32 0, .float .f32 0, .float .f32 0, .float .f32 0, .float .f32 0, .float .f32 0, .float .f32 0, .float .f32 0, .float .f32 0, .float .f32 0, .float .f32 0, .float .f32 0, .float .f32 0, .float .f32 0, .float .f32 0, .float .f32 0, .float .f32 0, .float .f32 0, .float .f32 0, .float .f32 0, .float .f32 0, .int .u64 0]]
theorem fnExactStepAtOnce_j0 : (Rows.fnExactStepAtOnceRow.inPlace == Tryd.prog.inPlace 10) = true := by kernel_rfl
theorem fnExactStepAtOnce_j1 : (Rows.fnExactStepAtOnceRow.unfollowed == Tryd.prog.unfollowed 10) = true := by kernel_rfl
theorem fnExactStepAtOnce_j2 : (Rows.fnExactStepAtOnceRow.recurses == Tryd.prog.recurses 10) = true := by kernel_rfl
theorem fnExactStepAtOnce_j3 : (Rows.fnExactStepAtOnceRow.named == Tryd.prog.varsNamed 10) = true := by kernel_rfl
theorem fnExactStepAtOnce_jw : Rows.fnExactStepAtOnceRow.wf (OpenSpec.ofChange Rows.fnExactStepAtOnceSpec) = true := by kernel_rfl
theorem fnExactStepAtOnce_jn : namedTie Tryd.prog Rows.fnExactStepAtOnceRow.named Rows.fnExactStepAtOnceSpec.vars = true := by kernel_rfl
theorem fnExactStepAtOnce_jf : joinedFacts Tryd.prog 10 Tryd.f10 Rows.fnExactStepAtOnceSpec Rows.fnExactStepAtOnceRow = true := by
  unfold joinedFacts
  simp only [Bool.and_eq_true]
  exact ⟨⟨⟨⟨⟨⟨⟨⟨⟨⟨⟨⟨⟨⟨⟨⟨⟨⟨⟨⟨⟨⟨⟨⟨⟨⟨⟨⟨⟨⟨⟨fnExactStepAtOnce_jw, laidOut⟩, (by kernel_rfl)⟩, (by kernel_rfl)⟩, fnExactStepAtOnce_jn⟩, (by kernel_rfl)⟩, (by kernel_rfl)⟩, (by kernel_rfl)⟩, (by kernel_rfl)⟩, fnExactStepAtOnce_j0⟩, fnExactStepAtOnce_j1⟩, fnExactStepAtOnce_j2⟩, fnExactStepAtOnce_j3⟩, (by kernel_rfl)⟩, (by kernel_rfl)⟩, (by kernel_rfl)⟩, (by kernel_rfl)⟩, (by kernel_rfl)⟩, (by kernel_rfl)⟩, (by kernel_rfl)⟩, (by kernel_rfl)⟩, (by kernel_rfl)⟩, (by kernel_rfl)⟩, (by kernel_rfl)⟩, (by kernel_rfl)⟩, seat_me⟩, seat_lf⟩, seat_mk⟩, (by kernel_rfl)⟩, (by kernel_rfl)⟩, (by kernel_rfl)⟩, (by kernel_rfl)⟩
theorem fnExactStepAtOnce_nm : Tryd.pinned.checked.prog.funcNamed Rows.fnExactStepAtOnceRow.func = some 10 := by kernel_rfl
theorem fnExactStepAtOnce_rd : ∀ t ∈ Tryd.f10.params.toList, Tryd.prog.readableRec t = true ∧ t < Tryd.prog.types.size := by rw [Tryd.params10]; exact (by decide +kernel)
theorem fnExactStepAtOnce_ok (os : Os) : Input.okWideB Tryd.checked.prog ((World.doorLaid Tryd.prog 400 os).forCall (fun _ _ => 0) ⟨#[], fnExactStepAtOnce_w, []⟩) 10 ⟨#[], fnExactStepAtOnce_w, []⟩ = true := by kernel_rfl
theorem fnExactStepAtOnce_pb (os : Os) (H : Type) (enc : TypeId × Value → H) : Rows.fnExactStepAtOnceSpec.preB enc Tryd.checked.prog Tryd.f10 [] false ((World.doorLaid Tryd.prog 400 os).forCall (fun _ _ => 0) ⟨#[], fnExactStepAtOnce_w, []⟩).memory fnExactStepAtOnce_w 16 = true := by kernel_rfl
theorem fnExactStepAtOnce_sb (os : Os) (H : Type) (enc : TypeId × Value → H) : Rows.fnExactStepAtOnceSpec.sizedB enc Tryd.checked.prog Tryd.f10 false ((World.doorLaid Tryd.prog 400 os).forCall (fun _ _ => 0) ⟨#[], fnExactStepAtOnce_w, []⟩).memory fnExactStepAtOnce_w 16 = true := by kernel_rfl
theorem fnExactStepAtOnce_sh (os : Os) : ((World.doorLaid Tryd.prog 400 os).forCall (fun _ _ => 0) ⟨#[], fnExactStepAtOnce_w, []⟩).Shaped Tryd.checked.prog := World.shaped_of_B (by kernel_rfl) (by kernel_rfl)
theorem fnExactStepAtOnce_row : Rows.FnExactStepAtOnceSaid :=
  OpenClaim.holds_of_wide 10 Tryd.f10 rfl rfl rfl rfl rfl rfl rfl ⟨rfl, rfl, rfl, rfl, rfl⟩ rfl rfl rfl rfl rfl fnExactStepAtOnce_nm Tryd.func10 fnExactStepAtOnce_jf
    (of_decide_eq_true (by kernel_rfl)) (by unfold Func.isWrapper; first | (rw [if_pos (by decide +kernel)]; kernel_rfl) | (rw [if_neg (by decide +kernel)]; exact ⟨rfl, rfl⟩))
    (fun os started H enc _ => liftT 10 Tryd.f10 Rows.fnExactStepAtOnceSpec Tryd.func10 rfl rfl
      (fun H ds h => match ds, h with | [d0], _ => rfl)
      fnExactStepAtOnce_rd
      fnExactStepAtOnce_walk os started H enc (by kernel_rfl)
      (witnessT 10 Tryd.f10 Rows.fnExactStepAtOnceSpec fnExactStepAtOnce_w os H enc (fnExactStepAtOnce_sh os) (fnExactStepAtOnce_ok os) (fnExactStepAtOnce_pb os H enc) (fnExactStepAtOnce_sb os H enc)))

set_option maxRecDepth 100000 in
theorem fnExactStepAtOnce_holds : Rows.FnExactStepAtOnceCardSaid :=
  Claim7.holds_tied_plain_at .later [] [.data] true Rows.fnExactStepAtOnceCard.stood.harness Rows.fnExactStepAtOnceCard.stood.looks
    fnExactStepAtOnce_row (fun _ h => by cases h) (by kernel_rfl) (fun _ h => by cases h) fnExactStepAtOnce_row_tie rfl ⟨rfl, rfl⟩ seat_mi (by kernel_rfl)
    (fun f fn hf hfn => by
      obtain rfl : f = 10 := Option.some.inj ((show Tryd.prog.funcNamed "loop.example/g01288/laws.FnExactStepAtOnce" = some 10 by kernel_rfl).symm.trans hf) |>.symm
      obtain rfl : fn = Tryd.f10 := (Option.some.inj (Tryd.func10.symm.trans hfn)).symm
      refine ⟨by kernel_rfl, fun j t ht => ?_⟩
      have hall : Tryd.f10.params.toList.all (fun t => !Tryd.prog.wantsStandIn t) = true := by kernel_rfl
      have hm : t ∈ Tryd.f10.params.toList := Array.mem_toList_iff.2 (Array.mem_of_getElem? ht)
      have h := List.all_eq_true.1 hall t hm
      simp only [Bool.not_eq_true'] at h
      exact h)
    (by kernel_rfl)
#print axioms fnExactStepAtOnce_holds
end Go.Proofs.YtdhnneidkdoplaaDoor
