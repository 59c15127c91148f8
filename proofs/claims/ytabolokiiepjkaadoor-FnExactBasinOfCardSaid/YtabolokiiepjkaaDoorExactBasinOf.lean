/- The law FnExactBasinOf of this commit: for every input the call returns true, and each argument reads afterwards as it read before. Condition: the table of math/bits is as its initialiser lays it (the card ties it to the program's text). -/
import Derived.Test.YtabolokiiepjkaaDoorLawBasinOf
import Derived.Test.YtabolokiiepjkaaDoorSeat
import Derived.Test.YtabolokiiepjkaaDoorCards
import Derived.Test.YtabolokiiepjkaaDoorTie
import Derived.SevenTiedAt
namespace Go.Proofs.YtabolokiiepjkaaDoor
open Go.ChangeShapes Go.WideShapes Go.ChangeAt Go.RowKit

set_option maxRecDepth 100000
def fnExactBasinOf_w : Array Value := #[.agg #[.int .i8 0, .int .i8 0, .float .f32 0, .float .f32 0, .float .f32 0, .float .f32 0, .float .f32 0, .float .f32 0, .float .f32 0, .float .f32 0, .float .f32 0, .float .f32 0, .float .f32 0, .float .f32 0, .float .f32 0, .float .f32 0, .float .f32 0, .float .f32 0, .float .f32 0, .float .f32 0, .float .f32 0, .float .f32 0, .float .f32 0, .float .f32 0, .float .f32 0, .float .f32 0, .float .f32 0, .float .f32 0, .float .f32 0, .float .f32 0, .float .f32 0, .float .f32 0, .float .f32 0, .float .f32 0, .float .f32 0, .float .f32 0, .float .f32 0, .float .f32 0, .float .f32 0, .float .f32 0, .float .f32 0, .float .f32 0, .float .f32 0, .float .f32 0, .float .f32 0, .float .f32 0, .float .f32 0, .float .f32 0, .float .f32 0, .float .f32 0, .float .f32 0, .float .f32 0, .float .f32 0, .float .f32 0, .float .f32 0, .float .f32 0, .float .f32 0, .float .f32 0, .float .f32 0, .float .f32 0, .float .f32 0, .float .f32 0, .float .f32 0, .float .f32 0, .float .f32 0, .float .f32 0, .float .f32 0, .float .f32 0, .float .f32 0, .float .f32 0, .float .f32 0, .float .f32 0, .float .f32 0, .float .f32 0, .float .f32 0, .float .f32 0, .float .f32 0, .float .f32 0, .float .f32 0, .float .f32 0, .float .f32 0, .float .f32 0, .float .f32 0, .float .f32 0, .float .f32 0, .float .f32 0, .float .f32 0, .float .f32 0, .float .f32 0, .float .f32 0, .float .f32 0, .float .f32 0, .float .f32 0, .float .f32 0, .float .f32 0, .float .f32 0, .float .f32 0, .float .f32 0, .float .f32 0, .float .f32 0, .float .f32 0, .float .f32 0, .float .f32 0, .float .f32 0, .float .f32 0, .float .f32 0, .float .f32 0, .float .f32 0, .float .f32 0, .float .f32 0, .float .f32 0, .float .f32 0, .float .f32 0, .float .f32 0, .float .f32 0, .float .f32 0, .float .f32 0, .float .f32 0, .float .f32 0, .float .f32 0, .float .f32 0, .float .f32 0, .float .f32 0, .float .f32 0, .float .f32 0, .float .f32 0, .float .f32 0, .float .f32 0, .float .f32 0, .float .f32 0, .float .f32 0, .float .f32 0, .float .f32 0, .float .f32 0, .float .f32 0, .float .f32 0, .float .f32 0, .float .f32 0, .float .f32 0, .float .f32 0, .float .f32 0, .float .f32 0, .float .f32 0, .float .f32 0, .float .f32 0, .float .f32 0, .float .f32 0, .float .f32 0, .float .f32 0, .float .f32 0, .float .f32 0, .float .f32 0, .float .f32 0, .float .f32 0, .float .f32 0, .float .f32 0, .float .f32 0, .float .f32 0, .float .f32 0, .float .f32 0, .float .f32 0, .float .f32 0, .float .f32 0, .float .f32 0, .float .f32 0, .float .f32 0, .float .f32 0, .float .f32 0, .float .f32 0, .float .f32 0, .float .f32 0, .float .f32 0, .float .f32 0, .float .f32 0, .float .f32 0, .float .f32 0, .float .f32 0, .float .f32 0, .float .f32 0, .float .f32 0, .float .f32 0, .float .f32 0, .float .f32 0, .float .f32 0, .float .f32 0, .float .f32 0, .float .f32 0, .float .f32 0, .float .f32 0, .float .f32 0, .float .f32 0, .float .f32 0, .float .f32 0, .float .f32 0, .int .u64 0], .int .i64 0]
theorem fnExactBasinOf_j0 : (Rows.fnExactBasinOfRow.inPlace == Tryd.prog.inPlace 4) = true := by kernel_rfl
theorem fnExactBasinOf_j1 : (Rows.fnExactBasinOfRow.unfollowed == Tryd.prog.unfollowed 4) = true := by kernel_rfl
theorem fnExactBasinOf_j2 : (Rows.fnExactBasinOfRow.recurses == Tryd.prog.recurses 4) = true := by kernel_rfl
theorem fnExactBasinOf_j3 : (Rows.fnExactBasinOfRow.named == Tryd.prog.varsNamed 4) = true := by kernel_rfl
theorem fnExactBasinOf_jw : Rows.fnExactBasinOfRow.wf (OpenSpec.ofChange Rows.fnExactBasinOfSpec) = true := by kernel_rfl
theorem fnExactBasinOf_jn : namedTie Tryd.prog Rows.fnExactBasinOfRow.named Rows.fnExactBasinOfSpec.vars = true := by kernel_rfl
theorem fnExactBasinOf_jf : joinedFacts Tryd.prog 4 Tryd.f4 Rows.fnExactBasinOfSpec Rows.fnExactBasinOfRow = true := by
  unfold joinedFacts
  simp only [Bool.and_eq_true]
  exact ⟨⟨⟨⟨⟨⟨⟨⟨⟨⟨⟨⟨⟨⟨⟨⟨⟨⟨⟨⟨⟨⟨⟨⟨⟨⟨⟨⟨⟨⟨⟨fnExactBasinOf_jw, laidOut⟩, (by kernel_rfl)⟩, (by kernel_rfl)⟩, fnExactBasinOf_jn⟩, (by kernel_rfl)⟩, (by kernel_rfl)⟩, (by kernel_rfl)⟩, (by kernel_rfl)⟩, fnExactBasinOf_j0⟩, fnExactBasinOf_j1⟩, fnExactBasinOf_j2⟩, fnExactBasinOf_j3⟩, (by kernel_rfl)⟩, (by kernel_rfl)⟩, (by kernel_rfl)⟩, (by kernel_rfl)⟩, (by kernel_rfl)⟩, (by kernel_rfl)⟩, (by kernel_rfl)⟩, (by kernel_rfl)⟩, (by kernel_rfl)⟩, (by kernel_rfl)⟩, (by kernel_rfl)⟩, (by kernel_rfl)⟩, seat_me⟩, seat_lf⟩, seat_mk⟩, (by kernel_rfl)⟩, (by kernel_rfl)⟩, (by kernel_rfl)⟩, (by kernel_rfl)⟩
theorem fnExactBasinOf_nm : Tryd.pinned.checked.prog.funcNamed Rows.fnExactBasinOfRow.func = some 4 := by kernel_rfl
theorem fnExactBasinOf_rd : ∀ t ∈ Tryd.f4.params.toList, Tryd.prog.readableRec t = true ∧ t < Tryd.prog.types.size := by rw [Tryd.params4]; exact (by decide +kernel)
theorem fnExactBasinOf_ok (os : Os) : Input.okWideB Tryd.checked.prog ((World.doorLaid Tryd.prog 400 os).forCall (fun _ _ => 0) ⟨#[], fnExactBasinOf_w, []⟩) 4 ⟨#[], fnExactBasinOf_w, []⟩ = true := by kernel_rfl
theorem fnExactBasinOf_pb (os : Os) (H : Type) (enc : TypeId × Value → H) : Rows.fnExactBasinOfSpec.preB enc Tryd.checked.prog Tryd.f4 [] false ((World.doorLaid Tryd.prog 400 os).forCall (fun _ _ => 0) ⟨#[], fnExactBasinOf_w, []⟩).memory fnExactBasinOf_w 16 = true := by kernel_rfl
theorem fnExactBasinOf_sb (os : Os) (H : Type) (enc : TypeId × Value → H) : Rows.fnExactBasinOfSpec.sizedB enc Tryd.checked.prog Tryd.f4 false ((World.doorLaid Tryd.prog 400 os).forCall (fun _ _ => 0) ⟨#[], fnExactBasinOf_w, []⟩).memory fnExactBasinOf_w 16 = true := by kernel_rfl
theorem fnExactBasinOf_sh (os : Os) : ((World.doorLaid Tryd.prog 400 os).forCall (fun _ _ => 0) ⟨#[], fnExactBasinOf_w, []⟩).Shaped Tryd.checked.prog := World.shaped_of_B (by kernel_rfl) (by kernel_rfl)
theorem fnExactBasinOf_row : Rows.FnExactBasinOfSaid :=
  OpenClaim.holds_of_wide 4 Tryd.f4 rfl rfl rfl rfl rfl rfl rfl ⟨rfl, rfl, rfl, rfl, rfl⟩ rfl rfl rfl rfl rfl fnExactBasinOf_nm Tryd.func4 fnExactBasinOf_jf
    (of_decide_eq_true (by kernel_rfl)) (by unfold Func.isWrapper; first | (rw [if_pos (by decide +kernel)]; kernel_rfl) | (rw [if_neg (by decide +kernel)]; exact ⟨rfl, rfl⟩))
    (fun os started H enc _ => liftT 4 Tryd.f4 Rows.fnExactBasinOfSpec Tryd.func4 rfl rfl
      (fun H ds h => match ds, h with | [d0, d1], _ => rfl)
      fnExactBasinOf_rd
      fnExactBasinOf_walk os started H enc (by kernel_rfl)
      (witnessT 4 Tryd.f4 Rows.fnExactBasinOfSpec fnExactBasinOf_w os H enc (fnExactBasinOf_sh os) (fnExactBasinOf_ok os) (fnExactBasinOf_pb os H enc) (fnExactBasinOf_sb os H enc)))

set_option maxRecDepth 100000 in
theorem fnExactBasinOf_holds : Rows.FnExactBasinOfCardSaid :=
  Claim7.holds_tied_plain_at .later [] [.data] true Rows.fnExactBasinOfCard.stood.harness Rows.fnExactBasinOfCard.stood.looks
    fnExactBasinOf_row (fun _ h => by cases h) (by kernel_rfl) (fun _ h => by cases h) fnExactBasinOf_row_tie rfl ⟨rfl, rfl⟩ seat_mi (by kernel_rfl)
    (fun f fn hf hfn => by
      obtain rfl : f = 4 := Option.some.inj ((show Tryd.prog.funcNamed "loop.example/g01288/laws.FnExactBasinOf" = some 4 by kernel_rfl).symm.trans hf) |>.symm
      obtain rfl : fn = Tryd.f4 := (Option.some.inj (Tryd.func4.symm.trans hfn)).symm
      refine ⟨by kernel_rfl, fun j t ht => ?_⟩
      have hall : Tryd.f4.params.toList.all (fun t => !Tryd.prog.wantsStandIn t) = true := by kernel_rfl
      have hm : t ∈ Tryd.f4.params.toList := Array.mem_toList_iff.2 (Array.mem_of_getElem? ht)
      have h := List.all_eq_true.1 hall t hm
      simp only [Bool.not_eq_true'] at h
      exact h)
    (by kernel_rfl)
#print axioms fnExactBasinOf_holds
end Go.Proofs.YtabolokiiepjkaaDoor
