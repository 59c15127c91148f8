/- The law FnExactWaterPath of this commit: for every input the call returns true, and each argument reads afterwards as it read before. Condition: the table of math/bits is as its initialiser lays it (the card ties it to the program's text). -/
import Derived.Test.YtabolokiiepjkaaDoorLawWaterPath
import Derived.Test.YtabolokiiepjkaaDoorSeat
import Derived.Test.YtabolokiiepjkaaDoorCards
import Derived.Test.YtabolokiiepjkaaDoorTie
import Derived.SevenTiedAt
namespace Go.Proofs.YtabolokiiepjkaaDoor
open Go.ChangeShapes Go.WideShapes Go.ChangeAt Go.RowKit

set_option maxRecDepth 100000
def fnExactWaterPath_w : Array Value := #[.agg #[.int .i8 0, .int .i8 0, .float .f32 0, .float .f32 0, .float .f32 0, .float .f32 0, .float .f32 0, .float .f32 0, .float .f32 0, .float .f32 0, .float .f32 0, .float .f32 0, .float .f32 0, .float .f32 0, .float .f32 0, .float .f32 0, .float .f32 0, .float .f32 0, .float .f32 0, .float .f32 0, .float .f32 0, .float .f32 0, .float .f32 0, .float .f32 0, .float .f32 0, .float .f32 0, .float .f32 0, .float .f32 0, .float .f32 0, .float .f32 0, .float .f32 0, .float .f32 0, .float .f32 0, .float .f32 0, .float .f32 0, .float .f32 0, .float .f32 0, .float .f32 0, .float .f32 0, .float .f32 0, .float .f32 0, .float .f32 0, .float .f32 0, .float .f32 0, .float .f32 0, .float .f32 0, .float .f32 0, .float .f32 0, .float .f32 0, .float .f32 0, .float .f32 0, .float .f32 0, .float .f32 0, .float .f32 0, .float .f32 0, .float .f32 0, .float .f32 0, .float .f32 0, .float .f32 0, .float .f32 0, .float .f32 0, .float .f32 0, .float .f32 0, .float .f32 0, .float .f32 0, .float .f32 0, .float .f32 0, .float .f32 0, .float .f32 0, .float .f32 0, .float .f32 0, .float .f32 0, .float .f32 0, .float .f32 0, .float .f32 0, .float .f32 0, .float .f32 0, .float .f32 0, .float .f32 0, .float .f32 0, .float .f32 0, .float .f32 0, .float .f32 0, .float .f32 0, .float .f32 0, .float .f32 0, .float .f32 0, .float .f32 0, .float .f32 0, .float .f32 0, .float .f32 0, .float .f32 0, .float .f32 0, .float .f32 0, .float .f32 0, .float .f32 0, .float .f32 0, .float .f32 0, .float .f32 0, .float .f32 0, .float .f32 0, .float .f32 0, .float .f32 0, .float .f32 0, .float .f32 0, .float .f32 0, .float .f32 0, .float .f32 0, .float .f32 0, .float .f32 0, .float .f32 0, .float .f32 0, .float .f32 0, .float .f32 0, .float .f32 0, .float .f32 0, .float .f32 0, .float .f32 0, .float .f32 0, .float .f32 0, .float .f32 0, .float .f32 0, .float .f32 0, .float .f32 0, .float .f32 0, .float .f32 0, .float .f32 0, .float .f32 0, .float .f32 0, .float .f32 0, .float .f32 0, .float .f32 0, .float .f32 0, .float .f32 0, .float .f32 0, .float .f32 0, .float .f32 0, .float .f32 0, .float .f32 0, .float .f32 0, .float .f32 0, .float .f32 0, .float .f32 0, .float .f32 0, .float .f32 0, .float .f32 0, .float .f32 0, .float .f32 0, .float .f32 0, .float .f32 0, .float .f32 0, .float .f32 0, .float .f32 0, .float .f32 0, .float .f32 0, .float .f32 0, .float .f32 0, .float .f32 0, .float .f32 0, .float .f32 0, .float .f32 0, .float .f32 0, .float .f32 0, .float .f32 0, .float .f32 0, .float .f32 0, .float .f32 0, .float .f32 0, .float .f32 0, .float .f32 0, .float .f32 0, .float .f32 0, .float .f32 0, .float .f32 0, .float .f32 0, .float .f32 0, .float .f32 0, .float .f32 0, .float .f32 0, .float .f32 0, .float .f32 0, .float .f32 0, .float .f32 0, .float .f32 0, .float .f32 0, .float .f32 0, .float .f32 0, .float .f32 0, .float .f32 0, .float .f32 0, .float .f32 0, .float .f32 0, .float .f32 0, .float .f32 0, .int .u64 0], .int .i64 0]
theorem fnExactWaterPath_j0 : (Rows.fnExactWaterPathRow.inPlace == Tryd.prog.inPlace 3) = true := by kernel_rfl
theorem fnExactWaterPath_j1 : (Rows.fnExactWaterPathRow.unfollowed == Tryd.prog.unfollowed 3) = true := by kernel_rfl
theorem fnExactWaterPath_j2 : (Rows.fnExactWaterPathRow.recurses == Tryd.prog.recurses 3) = true := by kernel_rfl
theorem fnExactWaterPath_j3 : (Rows.fnExactWaterPathRow.named == Tryd.prog.varsNamed 3) = true := by kernel_rfl
theorem fnExactWaterPath_jw : Rows.fnExactWaterPathRow.wf (OpenSpec.ofChange Rows.fnExactWaterPathSpec) = true := by kernel_rfl
theorem fnExactWaterPath_jn : namedTie Tryd.prog Rows.fnExactWaterPathRow.named Rows.fnExactWaterPathSpec.vars = true := by kernel_rfl
theorem fnExactWaterPath_jf : joinedFacts Tryd.prog 3 Tryd.f3 Rows.fnExactWaterPathSpec Rows.fnExactWaterPathRow = true := by
  unfold joinedFacts
  simp only [Bool.and_eq_true]
  exact ⟨⟨⟨⟨⟨⟨⟨⟨⟨⟨⟨⟨⟨⟨⟨⟨⟨⟨⟨⟨⟨⟨⟨⟨⟨⟨⟨⟨⟨⟨⟨fnExactWaterPath_jw, laidOut⟩, (by kernel_rfl)⟩, (by kernel_rfl)⟩, fnExactWaterPath_jn⟩, (by kernel_rfl)⟩, (by kernel_rfl)⟩, (by kernel_rfl)⟩, (by kernel_rfl)⟩, fnExactWaterPath_j0⟩, fnExactWaterPath_j1⟩, fnExactWaterPath_j2⟩, fnExactWaterPath_j3⟩, (by kernel_rfl)⟩, (by kernel_rfl)⟩, (by kernel_rfl)⟩, (by kernel_rfl)⟩, (by kernel_rfl)⟩, (by kernel_rfl)⟩, (by kernel_rfl)⟩, (by kernel_rfl)⟩, (by kernel_rfl)⟩, (by kernel_rfl)⟩, (by kernel_rfl)⟩, (by kernel_rfl)⟩, seat_me⟩, seat_lf⟩, seat_mk⟩, (by kernel_rfl)⟩, (by kernel_rfl)⟩, (by kernel_rfl)⟩, (by kernel_rfl)⟩
theorem fnExactWaterPath_nm : Tryd.pinned.checked.prog.funcNamed Rows.fnExactWaterPathRow.func = some 3 := by kernel_rfl
theorem fnExactWaterPath_rd : ∀ t ∈ Tryd.f3.params.toList, Tryd.prog.readableRec t = true ∧ t < Tryd.prog.types.size := by rw [Tryd.params3]; exact (by decide +kernel)
theorem fnExactWaterPath_ok (os : Os) : Input.okWideB Tryd.checked.prog ((World.doorLaid Tryd.prog 400 os).forCall (fun _ _ => 0) ⟨#[], fnExactWaterPath_w, []⟩) 3 ⟨#[], fnExactWaterPath_w, []⟩ = true := by kernel_rfl
theorem fnExactWaterPath_pb (os : Os) (H : Type) (enc : TypeId × Value → H) : Rows.fnExactWaterPathSpec.preB enc Tryd.checked.prog Tryd.f3 [] false ((World.doorLaid Tryd.prog 400 os).forCall (fun _ _ => 0) ⟨#[], fnExactWaterPath_w, []⟩).memory fnExactWaterPath_w 16 = true := by kernel_rfl
theorem fnExactWaterPath_sb (os : Os) (H : Type) (enc : TypeId × Value → H) : Rows.fnExactWaterPathSpec.sizedB enc Tryd.checked.prog Tryd.f3 false ((World.doorLaid Tryd.prog 400 os).forCall (fun _ _ => 0) ⟨#[], fnExactWaterPath_w, []⟩).memory fnExactWaterPath_w 16 = true := by kernel_rfl
theorem fnExactWaterPath_sh (os : Os) : ((World.doorLaid Tryd.prog 400 os).forCall (fun _ _ => 0) ⟨#[], fnExactWaterPath_w, []⟩).Shaped Tryd.checked.prog := World.shaped_of_B (by kernel_rfl) (by kernel_rfl)
theorem fnExactWaterPath_row : Rows.FnExactWaterPathSaid :=
  OpenClaim.holds_of_wide 3 Tryd.f3 rfl rfl rfl rfl rfl rfl rfl ⟨rfl, rfl, rfl, rfl, rfl⟩ rfl rfl rfl rfl rfl fnExactWaterPath_nm Tryd.func3 fnExactWaterPath_jf
    (of_decide_eq_true (by kernel_rfl)) (by unfold Func.isWrapper; first | (rw [if_pos (by decide +kernel)]; kernel_rfl) | (rw [if_neg (by decide +kernel)]; exact ⟨rfl, rfl⟩))
    (fun os started H enc _ => liftT 3 Tryd.f3 Rows.fnExactWaterPathSpec Tryd.func3 rfl rfl
      (fun H ds h => match ds, h with | [d0, d1], _ => rfl)
      fnExactWaterPath_rd
      fnExactWaterPath_walk os started H enc (by kernel_rfl)
      (witnessT 3 Tryd.f3 Rows.fnExactWaterPathSpec fnExactWaterPath_w os H enc (fnExactWaterPath_sh os) (fnExactWaterPath_ok os) (fnExactWaterPath_pb os H enc) (fnExactWaterPath_sb os H enc)))

set_option maxRecDepth 100000 in
theorem fnExactWaterPath_holds : Rows.FnExactWaterPathCardSaid :=
  Claim7.holds_tied_plain_at .later [] [.data] true Rows.fnExactWaterPathCard.stood.harness Rows.fnExactWaterPathCard.stood.looks
    fnExactWaterPath_row (fun _ h => by cases h) (by kernel_rfl) (fun _ h => by cases h) fnExactWaterPath_row_tie rfl ⟨rfl, rfl⟩ seat_mi (by kernel_rfl)
    (fun f fn hf hfn => by
      obtain rfl : f = 3 := Option.some.inj ((show Tryd.prog.funcNamed "loop.example/g01288/laws.FnExactWaterPath" = some 3 by kernel_rfl).symm.trans hf) |>.symm
      obtain rfl : fn = Tryd.f3 := (Option.some.inj (Tryd.func3.symm.trans hfn)).symm
      refine ⟨by kernel_rfl, fun j t ht => ?_⟩
      have hall : Tryd.f3.params.toList.all (fun t => !Tryd.prog.wantsStandIn t) = true := by kernel_rfl
      have hm : t ∈ Tryd.f3.params.toList := Array.mem_toList_iff.2 (Array.mem_of_getElem? ht)
      have h := List.all_eq_true.1 hall t hm
      simp only [Bool.not_eq_true'] at h
      exact h)
    (by kernel_rfl)
#print axioms fnExactWaterPath_holds
end Go.Proofs.YtabolokiiepjkaaDoor
