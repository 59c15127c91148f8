/- The law FnExactLoggedLevels of this commit: for every input the call returns true, and each argument reads afterwards as it read before. Condition: the table of math/bits is as its initialiser lays it (the card ties it to the program's text). -/
import Derived.Test.YtjhaonfdapldcaaDoorLawLoggedLevels
import Derived.Test.YtjhaonfdapldcaaDoorSeat
import Derived.Test.YtjhaonfdapldcaaDoorCards
import Derived.Test.YtjhaonfdapldcaaDoorTie
import Derived.SevenTiedAt
namespace Go.Proofs.YtjhaonfdapldcaaDoor
open Go.ChangeShapes Go.WideShapes Go.ChangeAt Go.RowKit

set_option maxRecDepth 100000
def fnExactLoggedLevels_w : Array Value := #[.agg #[.int .i8 0, .int .i8 0, .float .f32 0, .float .f32 0, .float .f32 0, .float .f32 0, .float .f32 0, .float .f32 0, .float .f32 0, .float .f32 0, .float .f32 0, .float .f32 0, .float .f32 0, .float .f32 0, .float .f32 0, .float .f32 0, .float .f32 0, .float .f32 0, .float .f32 0, .float .f32 0, .float .f32 0, .float .f32 0, .float .f32 0, .float .f32 0, .float .f32 0, .float .f32 0, .float .f32 0, .float .f32 0, .float .f32 0, .float .f32 0, .float .f32 0, .float .f32 0, .float .f32 0, .float .f32 0, .float .f32 0, .float .f32 0, .float .f32 0, .float .f32 0, .float .f32 0, .float .f32 0, .float .f32 0, .float .f32 0, .float .f32 0, .float .f32 0, .float .f32 0, .float .f32 0, .float .f32 0, .float .f32 0, .float .f32 0, .float .f32 0, .float .f32 0, .float .f32 0, .float .f32 0, .float .f32 0, .float .f32 0, .float .f32 0, .float .f32 0, .float .f32 0, .float .f32 0, .float .f32 0, .float .f32 0, .float .f32 0, .float .f32 0, .float .f32 0, .float .f32 0, .float .f32 0, .float .f32 0, .float .f32 0, .float .f32 0, .float .f32 0, .float .f32 0, .float .f32 0, .float .f32 0, .float .f32 0, .float .f32 0, .float .f32 0, .float .f32 0, .float .f32 0, .float .f32 0, .float .f32 0, .float .f32 0, .float .f32 0, .float .f32 0, .float .f32 0, .float .f32 0, .float .f32 0, .float .f32 0, .float .f32 0, .float .f32 0, .float .f32 0, .float .f32 0, .float .f32 0, .float .f32 0, .float .f32 0, .float .f32 0, .float .f32 0, .float .f32 0, .float .f32 0, .float .f32 0, .float .f32 0, .float .f32 0, .float .f32 0, .float .f32 0, .float .f32 0, .float .f32 0, .float .f32 0, .float .f32 0, .float .f32 0, .float .f32 0, .float .f32 0, .float .f32 0, .float .f32 0, .float .f32 0, .float .f32 0, .float .f32 0, .float .f32 0, .float .f32 0, .float .f32 0, .float .f32 0, .float .f32 0, .float .f32 0, .float .f32 0, .float .f32 0, .float .f32 0, .float .f32 0, .float .f32 0, .float .f32 0, .float .f32 0, .float .f32 0, .float .f32 0, .float .f32 0, .float .f32 0, .float .f32 0, .float .f32 0, .float .f32 0, .float .f32 0, .float .f32 0, .float .f32 0, .float .f32 0, .float .f32 0, .float .f32 0, .float .f32 0, .float .f32 0, .float .f32 0, .float .f32 0, .float .f32 0, .float .f32 0, .float .f32 0, .float .f32 0, .float .f32 0, .float .f32 0, .float .f32 0, .float .f32 0, .float .f32 0, .float .f32 0, .float .f32 0, .float .f32 0, .float .f32 0, .float .f32 0, .float .f32 0, .float .f32 0, .float .f32 0, .float .f32 0, .float .f32 0, .float .f32 0, .float .f32 0, .float .f32 0, .float .f32 0, .float .f32 0, .float .f32 0, .float .f32 0, .float .f32 0, .float .f32 0, .float .f32 0, .float .f32 0, .float .f32 0, .float .f32 0, .float .f32 0, .float .f32 0, .float .f32 0, .float .f32 0, .float .f32 0, .float .f32 0, .float .f32 0, .float .f32 0, .float .f32 0, .float .f32 0, .float .f32 0, .float .f32 0, .float .f32 0, .float .f32 0, .float .f32 0, .float .f32 0, .float .f32 0, .int .u64 0]]
theorem fnExactLoggedLevels_j0 : (Rows.fnExactLoggedLevelsRow.inPlace == Tryd.prog.inPlace 4) = true := by kernel_rfl
theorem fnExactLoggedLevels_j1 : (Rows.fnExactLoggedLevelsRow.unfollowed == Tryd.prog.unfollowed 4) = true := by kernel_rfl
theorem fnExactLoggedLevels_j2 : (Rows.fnExactLoggedLevelsRow.recurses == Tryd.prog.recurses 4) = true := by kernel_rfl
theorem fnExactLoggedLevels_j3 : (Rows.fnExactLoggedLevelsRow.named == Tryd.prog.varsNamed 4) = true := by kernel_rfl
theorem fnExactLoggedLevels_jw : Rows.fnExactLoggedLevelsRow.wf (OpenSpec.ofChange Rows.fnExactLoggedLevelsSpec) = true := by kernel_rfl
theorem fnExactLoggedLevels_jn : namedTie Tryd.prog Rows.fnExactLoggedLevelsRow.named Rows.fnExactLoggedLevelsSpec.vars = true := by kernel_rfl
theorem fnExactLoggedLevels_jf : joinedFacts Tryd.prog 4 Tryd.f4 Rows.fnExactLoggedLevelsSpec Rows.fnExactLoggedLevelsRow = true := by
  unfold joinedFacts
  simp only [Bool.and_eq_true]
  exact ⟨⟨⟨⟨⟨⟨⟨⟨⟨⟨⟨⟨⟨⟨⟨⟨⟨⟨⟨⟨⟨⟨⟨⟨⟨⟨⟨⟨⟨⟨⟨fnExactLoggedLevels_jw, laidOut⟩, (by kernel_rfl)⟩, (by kernel_rfl)⟩, fnExactLoggedLevels_jn⟩, (by kernel_rfl)⟩, (by kernel_rfl)⟩, (by kernel_rfl)⟩, (by kernel_rfl)⟩, fnExactLoggedLevels_j0⟩, fnExactLoggedLevels_j1⟩, fnExactLoggedLevels_j2⟩, fnExactLoggedLevels_j3⟩, (by kernel_rfl)⟩, (by kernel_rfl)⟩, (by kernel_rfl)⟩, (by kernel_rfl)⟩, (by kernel_rfl)⟩, (by kernel_rfl)⟩, (by kernel_rfl)⟩, (by kernel_rfl)⟩, (by kernel_rfl)⟩, (by kernel_rfl)⟩, (by kernel_rfl)⟩, (by kernel_rfl)⟩, seat_me⟩, seat_lf⟩, seat_mk⟩, (by kernel_rfl)⟩, (by kernel_rfl)⟩, (by kernel_rfl)⟩, (by kernel_rfl)⟩
theorem fnExactLoggedLevels_nm : Tryd.pinned.checked.prog.funcNamed Rows.fnExactLoggedLevelsRow.func = some 4 := by kernel_rfl
theorem fnExactLoggedLevels_rd : ∀ t ∈ Tryd.f4.params.toList, Tryd.prog.readableRec t = true ∧ t < Tryd.prog.types.size := by rw [Tryd.params4]; exact (by decide +kernel)
theorem fnExactLoggedLevels_ok (os : Os) : Input.okWideB Tryd.checked.prog ((World.doorLaid Tryd.prog 400 os).forCall (fun _ _ => 0) ⟨#[], fnExactLoggedLevels_w, []⟩) 4 ⟨#[], fnExactLoggedLevels_w, []⟩ = true := by kernel_rfl
theorem fnExactLoggedLevels_pb (os : Os) (H : Type) (enc : TypeId × Value → H) : Rows.fnExactLoggedLevelsSpec.preB enc Tryd.checked.prog Tryd.f4 [] false ((World.doorLaid Tryd.prog 400 os).forCall (fun _ _ => 0) ⟨#[], fnExactLoggedLevels_w, []⟩).memory fnExactLoggedLevels_w 16 = true := by kernel_rfl
theorem fnExactLoggedLevels_sb (os : Os) (H : Type) (enc : TypeId × Value → H) : Rows.fnExactLoggedLevelsSpec.sizedB enc Tryd.checked.prog Tryd.f4 false ((World.doorLaid Tryd.prog 400 os).forCall (fun _ _ => 0) ⟨#[], fnExactLoggedLevels_w, []⟩).memory fnExactLoggedLevels_w 16 = true := by kernel_rfl
theorem fnExactLoggedLevels_sh (os : Os) : ((World.doorLaid Tryd.prog 400 os).forCall (fun _ _ => 0) ⟨#[], fnExactLoggedLevels_w, []⟩).Shaped Tryd.checked.prog := World.shaped_of_B (by kernel_rfl) (by kernel_rfl)
theorem fnExactLoggedLevels_row : Rows.FnExactLoggedLevelsSaid :=
  OpenClaim.holds_of_wide 4 Tryd.f4 rfl rfl rfl rfl rfl rfl rfl ⟨rfl, rfl, rfl, rfl, rfl⟩ rfl rfl rfl rfl rfl fnExactLoggedLevels_nm Tryd.func4 fnExactLoggedLevels_jf
    (of_decide_eq_true (by kernel_rfl)) (by unfold Func.isWrapper; first | (rw [if_pos (by decide +kernel)]; kernel_rfl) | (rw [if_neg (by decide +kernel)]; exact ⟨rfl, rfl⟩))
    (fun os started H enc _ => liftT 4 Tryd.f4 Rows.fnExactLoggedLevelsSpec Tryd.func4 rfl rfl
      (fun H ds h => match ds, h with | [d0], _ => rfl)
      fnExactLoggedLevels_rd
      fnExactLoggedLevels_walk os started H enc (by kernel_rfl)
      (witnessT 4 Tryd.f4 Rows.fnExactLoggedLevelsSpec fnExactLoggedLevels_w os H enc (fnExactLoggedLevels_sh os) (fnExactLoggedLevels_ok os) (fnExactLoggedLevels_pb os H enc) (fnExactLoggedLevels_sb os H enc)))

set_option maxRecDepth 100000 in
theorem fnExactLoggedLevels_holds : Rows.FnExactLoggedLevelsCardSaid :=
  Claim7.holds_tied_plain_at .later [] [.data] true Rows.fnExactLoggedLevelsCard.stood.harness Rows.fnExactLoggedLevelsCard.stood.looks
    fnExactLoggedLevels_row (fun _ h => by cases h) (by kernel_rfl) (fun _ h => by cases h) fnExactLoggedLevels_row_tie rfl ⟨rfl, rfl⟩ seat_mi (by kernel_rfl)
    (fun f fn hf hfn => by
      obtain rfl : f = 4 := Option.some.inj ((show Tryd.prog.funcNamed "loop.example/g01288/laws.FnExactLoggedLevels" = some 4 by kernel_rfl).symm.trans hf) |>.symm
      obtain rfl : fn = Tryd.f4 := (Option.some.inj (Tryd.func4.symm.trans hfn)).symm
      refine ⟨by kernel_rfl, fun j t ht => ?_⟩
      have hall : Tryd.f4.params.toList.all (fun t => !Tryd.prog.wantsStandIn t) = true := by kernel_rfl
      have hm : t ∈ Tryd.f4.params.toList := Array.mem_toList_iff.2 (Array.mem_of_getElem? ht)
      have h := List.all_eq_true.1 hall t hm
      simp only [Bool.not_eq_true'] at h
      exact h)
    (by kernel_rfl)
#print axioms fnExactLoggedLevels_holds
end Go.Proofs.YtjhaonfdapldcaaDoor
