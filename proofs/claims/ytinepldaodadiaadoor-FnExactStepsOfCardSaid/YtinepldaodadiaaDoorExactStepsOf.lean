/- The law FnExactStepsOf of this commit: for every input the call returns true, and each argument reads afterwards as it read before. Condition: the table of math/bits is as its initialiser lays it (the card ties it to the program's text). -/
import Derived.Test.YtinepldaodadiaaDoorLawStepsOf
import Derived.Test.YtinepldaodadiaaDoorSeat
import Derived.Test.YtinepldaodadiaaDoorCards
import Derived.Test.YtinepldaodadiaaDoorTie
import Derived.SevenTiedAt
namespace Go.Proofs.YtinepldaodadiaaDoor
open Go.ChangeShapes Go.WideShapes Go.ChangeAt Go.RowKit

set_option maxRecDepth 100000
def fnExactStepsOf_w : Array Value := #[.agg #[.int .i8 0, .int .i8 0, .float .f32 0, .float .f32 0, .float .f32 0, .float .f32 0, .float .f32 0, .float .f32 0, .float .f32 0, .float .f32 0, .float .f32 0, .float .f32 0, .float .f32 0, .float .f32 0, .float .f32 0, .float .f32 0, .float .f32 0, .float .f32 0, .float .f32 0, .float .f32 0, .float .f32 0, .float .f32 0, .float .f32 0, .float .f32 0, .float .f32 0, .float .f32 0, .float .f32 0, .float .f32 0, .float .f32 0, .float .f32 0, .float .f32 0, .float .f32 0, .float .f32 0, .float .f32 0, .float .f32 0, .float .f32 0, .float .f32 0, .float .f32 0, .float .f32 0, .float .f32 0, .float .f32 0, .float .f32 0, .float .f32 0, .float .f32 0, .float .f32 0, .float .f32 0, .float .f32 0, .float .f32 0, .float .f32 0, .float .f32 0, .float .f32 0, .float .f32 0, .float .f32 0, .float .f32 0, .float .f32 0, .float .f32 0, .float .f32 0, .float .f32 0, .float .f32 0, .float .f32 0, .float .f32 0, .float .f32 0, .float .f32 0, .float .f32 0, .float .f32 0, .float .f32 0, .float .f32 0, .float .f32 0, .float .f32 0, .float .f32 0, .float .f32 0, .float .f32 0, .float .f32 0, .float .f32 0, .float .f32 0, .float .f32 0, .float .f32 0, .float .f32 0, .float .f32 0, .float .f32 0, .float .f32 0, .float .f32 0, .float .f32 0, .float .f32 0, .float .f32 0, .float .f32 0, .float .f32 0, .float .f32 0, .float .f32 0, .float .f32 0, .float .f32 0, .float .f32 0, .float .f32 0, .float .f32 0, .float .f32 0, .float .f32 0, .float .f32 0, .float .f32 0, .float .f32 0, .float .f32 0, .float .f32 0, .float .f32 0, .float .f32 0, .float .f32 0, .float .f32 0, .float .f32 0, .float .f32 0, .float .f32 0, .float .f32 0, .float .f32 0, .float .f32 0, .float .f32 0, .float .f32 0, .float .f32 0, .float .f32 0, .float .f32 0, .float .f32 0, .float .f32 0, .float .f32 0, .float .f32 0, .float .f32 0, .float .f32 0, .float .f32 0, .float .f32 0, .float .f32 0, .float .f32 0, .float .f32 0, .float .f32 0, .float .f32 0, .float .f32 0, .float .f32 0, .float .f32 0, .float .f32 0, .float .f32 0, .float .f32 0, .float .f32 0, .float .f32 0, .float .f32 0, .float .f32 0, .float .f32 0, .float .f32 0, .float .f32 0, .float .f32 0, .float .f32 0, .float .f32 0, .float .f32 0, .float .f32 0, .float .f32 0, .float .f32 0, .float .f32 0, .float .f32 0, .float .f32 0, .float .f32 0, .float .f32 0, .float .f32 0, .float .f32 0, .float .f32 0, .float .f32 0, .float .f32 0, .float .f32 0, .float .f32 0, .float .f32 0, .float .f32 0, .float .f32 0, .float .f32 0, .float .f32 0, .float .f32 0, .float .f32 0, .float .f32 0, .float .f32 0, .float .f32 0, .float .f32 0, .float .f32 0, .float .f32 0, .float .f32 0, .float .f32 0, .float .f32 0, .float .f32 0, .float .f32 0, .float .f32 0, .float .f32 0, .float .f32 0, .float .f32 0, .float .f32 0, .float .f32 0, .float .f32 0, .float .f32 0, .float .f32 0, .float .f32 0, .float .f32 0, .float .f32 0, .float .f32 0, .float .f32 0, .float .f32 0, .int .u64 0], .float .f32 0, .int .i64 0]
theorem fnExactStepsOf_j0 : (Rows.fnExactStepsOfRow.inPlace == Tryd.prog.inPlace 3) = true := by kernel_rfl
theorem fnExactStepsOf_j1 : (Rows.fnExactStepsOfRow.unfollowed == Tryd.prog.unfollowed 3) = true := by kernel_rfl
theorem fnExactStepsOf_j2 : (Rows.fnExactStepsOfRow.recurses == Tryd.prog.recurses 3) = true := by kernel_rfl
theorem fnExactStepsOf_j3 : (Rows.fnExactStepsOfRow.named == Tryd.prog.varsNamed 3) = true := by kernel_rfl
theorem fnExactStepsOf_jw : Rows.fnExactStepsOfRow.wf (OpenSpec.ofChange Rows.fnExactStepsOfSpec) = true := by kernel_rfl
theorem fnExactStepsOf_jn : namedTie Tryd.prog Rows.fnExactStepsOfRow.named Rows.fnExactStepsOfSpec.vars = true := by kernel_rfl
theorem fnExactStepsOf_jf : joinedFacts Tryd.prog 3 Tryd.f3 Rows.fnExactStepsOfSpec Rows.fnExactStepsOfRow = true := by
  unfold joinedFacts
  simp only [Bool.and_eq_true]
  exact ⟨⟨⟨⟨⟨⟨⟨⟨⟨⟨⟨⟨⟨⟨⟨⟨⟨⟨⟨⟨⟨⟨⟨⟨⟨⟨⟨⟨⟨⟨⟨fnExactStepsOf_jw, laidOut⟩, (by kernel_rfl)⟩, (by kernel_rfl)⟩, fnExactStepsOf_jn⟩, (by kernel_rfl)⟩, (by kernel_rfl)⟩, (by kernel_rfl)⟩, (by kernel_rfl)⟩, fnExactStepsOf_j0⟩, fnExactStepsOf_j1⟩, fnExactStepsOf_j2⟩, fnExactStepsOf_j3⟩, (by kernel_rfl)⟩, (by kernel_rfl)⟩, (by kernel_rfl)⟩, (by kernel_rfl)⟩, (by kernel_rfl)⟩, (by kernel_rfl)⟩, (by kernel_rfl)⟩, (by kernel_rfl)⟩, (by kernel_rfl)⟩, (by kernel_rfl)⟩, (by kernel_rfl)⟩, (by kernel_rfl)⟩, seat_me⟩, seat_lf⟩, seat_mk⟩, (by kernel_rfl)⟩, (by kernel_rfl)⟩, (by kernel_rfl)⟩, (by kernel_rfl)⟩
theorem fnExactStepsOf_nm : Tryd.pinned.checked.prog.funcNamed Rows.fnExactStepsOfRow.func = some 3 := by kernel_rfl
theorem fnExactStepsOf_rd : ∀ t ∈ Tryd.f3.params.toList, Tryd.prog.readableRec t = true ∧ t < Tryd.prog.types.size := by rw [Tryd.params3]; exact (by decide +kernel)
theorem fnExactStepsOf_ok (os : Os) : Input.okWideB Tryd.checked.prog ((World.doorLaid Tryd.prog 400 os).forCall (fun _ _ => 0) ⟨#[], fnExactStepsOf_w, []⟩) 3 ⟨#[], fnExactStepsOf_w, []⟩ = true := by kernel_rfl
theorem fnExactStepsOf_pb (os : Os) (H : Type) (enc : TypeId × Value → H) : Rows.fnExactStepsOfSpec.preB enc Tryd.checked.prog Tryd.f3 [] false ((World.doorLaid Tryd.prog 400 os).forCall (fun _ _ => 0) ⟨#[], fnExactStepsOf_w, []⟩).memory fnExactStepsOf_w 16 = true := by kernel_rfl
theorem fnExactStepsOf_sb (os : Os) (H : Type) (enc : TypeId × Value → H) : Rows.fnExactStepsOfSpec.sizedB enc Tryd.checked.prog Tryd.f3 false ((World.doorLaid Tryd.prog 400 os).forCall (fun _ _ => 0) ⟨#[], fnExactStepsOf_w, []⟩).memory fnExactStepsOf_w 16 = true := by kernel_rfl
theorem fnExactStepsOf_sh (os : Os) : ((World.doorLaid Tryd.prog 400 os).forCall (fun _ _ => 0) ⟨#[], fnExactStepsOf_w, []⟩).Shaped Tryd.checked.prog := World.shaped_of_B (by kernel_rfl) (by kernel_rfl)
theorem fnExactStepsOf_row : Rows.FnExactStepsOfSaid :=
  OpenClaim.holds_of_wide 3 Tryd.f3 rfl rfl rfl rfl rfl rfl rfl ⟨rfl, rfl, rfl, rfl, rfl⟩ rfl rfl rfl rfl rfl fnExactStepsOf_nm Tryd.func3 fnExactStepsOf_jf
    (of_decide_eq_true (by kernel_rfl)) (by unfold Func.isWrapper; first | (rw [if_pos (by decide +kernel)]; kernel_rfl) | (rw [if_neg (by decide +kernel)]; exact ⟨rfl, rfl⟩))
    (fun os started H enc _ => liftT 3 Tryd.f3 Rows.fnExactStepsOfSpec Tryd.func3 rfl rfl
      (fun H ds h => match ds, h with | [d0, d1, d2], _ => rfl)
      fnExactStepsOf_rd
      fnExactStepsOf_walk os started H enc (by kernel_rfl)
      (witnessT 3 Tryd.f3 Rows.fnExactStepsOfSpec fnExactStepsOf_w os H enc (fnExactStepsOf_sh os) (fnExactStepsOf_ok os) (fnExactStepsOf_pb os H enc) (fnExactStepsOf_sb os H enc)))

set_option maxRecDepth 100000 in
theorem fnExactStepsOf_holds : Rows.FnExactStepsOfCardSaid :=
  Claim7.holds_tied_plain_at .later [] [.data] true Rows.fnExactStepsOfCard.stood.harness Rows.fnExactStepsOfCard.stood.looks
    fnExactStepsOf_row (fun _ h => by cases h) (by kernel_rfl) (fun _ h => by cases h) fnExactStepsOf_row_tie rfl ⟨rfl, rfl⟩ seat_mi (by kernel_rfl)
    (fun f fn hf hfn => by
      obtain rfl : f = 3 := Option.some.inj ((show Tryd.prog.funcNamed "loop.example/g01288/laws.FnExactStepsOf" = some 3 by kernel_rfl).symm.trans hf) |>.symm
      obtain rfl : fn = Tryd.f3 := (Option.some.inj (Tryd.func3.symm.trans hfn)).symm
      refine ⟨by kernel_rfl, fun j t ht => ?_⟩
      have hall : Tryd.f3.params.toList.all (fun t => !Tryd.prog.wantsStandIn t) = true := by kernel_rfl
      have hm : t ∈ Tryd.f3.params.toList := Array.mem_toList_iff.2 (Array.mem_of_getElem? ht)
      have h := List.all_eq_true.1 hall t hm
      simp only [Bool.not_eq_true'] at h
      exact h)
    (by kernel_rfl)
#print axioms fnExactStepsOf_holds
end Go.Proofs.YtinepldaodadiaaDoor
