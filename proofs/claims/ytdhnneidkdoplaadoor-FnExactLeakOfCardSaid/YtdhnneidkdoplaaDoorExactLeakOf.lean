/- The law FnExactLeakOf of this commit: for every input the call returns true, and each argument reads afterwards as it read before. Condition: the table of math/bits is as its initialiser lays it (the card ties it to the program's text). -/
import Derived.Test.YtdhnneidkdoplaaDoorLawLeakOf
import Derived.Test.YtdhnneidkdoplaaDoorSeat
import Derived.Test.YtdhnneidkdoplaaDoorCards
import Derived.Test.YtdhnneidkdoplaaDoorTie
import Derived.SevenTiedAt
namespace Go.Proofs.YtdhnneidkdoplaaDoor
open Go.ChangeShapes Go.WideShapes Go.ChangeAt Go.RowKit

set_option maxRecDepth 100000
def fnExactLeakOf_w : Array Value := #[.agg #[.int .i8 0, .int .i8 0, .float .f32 0, .float .f32 0, .float .f32 0, .float .f32 0, .float .f32 0, .float .f32 0, .float .f32 0, .float .f32 0, .float .f32 0, .float .f32 0, .float .f32 0, .float .f32 0, .float .f32 0, .float .f32 0, .float .f32 0, .float .f32 0, .float .f32 0, .float .f32 0, .float .f32 0, .float .f32 0, .float .f32 0, .float .f32 0, .float .f32 0, .float .f32 0, .float .f32 0, .float .f32 0, .float .f32 0, .float .f32 0, .float .f32 0, .float .f32 0, .float .f32 0, .float .f32 0, .float .f32 0, .float .f32 0, .float .f32 0, .float .f32 0, .float .f32 0, .float .f32 0, .float .f32 0, .float .f32 0, .float .f32 0, .float .f32 0, .float .f32 0, .float .f32 0, .float .f32 0, .float .f32 0, .float .f32 0, .float .f32 0, .float .f32 0, .float .f32 0, .float .f32 0, .float .f32 0, .float .f32 0, .float .f32 0, .float .f32 0, .float .f32 0, .float .f32 0, .float .f32 0, .float .f32 0, .float .f32 0, .float .f32 0, .float .f32 0, .float .f32 0, .float .f32 0, .float .f32 0, .float .f32 0, .float .f32 0, .float .f32 0, .float .f32 0, .float .f32 0, .float .f32 0, .float .f32 0, .float .f32 0, .float .f32 0, .float .f32 0, .float .f32 0, .float .f32 0, .float .f32 0, .float .f32 0, .float .f32 0, .float .f32 0, .float .f32 0, .float .f32 0, .float .f32 0, .float .f32 0, .float .f32 0, .float .f32 0, .float .f32 0, .float .f32 0, .float .f32 0, .float .f32 0, .float .f32 0, .float .f32 0, .float .f32 0, .float .f32 0, .float .f32 0, .float .f32 0, .float .f32 0, .float .f32 0, .float .f32 0, .float .f32 0, .float .f32 0, .float .f32 0, .float .f32 0, .float .f32 0, .float .f32 0, .float .f32 0, .float .f32 0, .float .f32 0, .float .f32 0, .float .f32 0, .float .f32 0, .float .f32 0, .float .f32 0, .float .f32 0, .float .f32 0, .float .f32 0, .float .f32 0, .float .f32 0, .float .f32 0, .float .f32 0, .float .f32 0, .float .f32 0, .float .f32 0, .float .f32 0, .float .f32 0, .float .f32 0, .float .f32 0, .float .f32 0, .float .f32 0, .float .f32 0, .float .f32 0, .float .f32 0, .float .f32 0, .float .f32 0, .float .f32 0, .float .f32 0, .float .f32 0, .float .f32 0, .float .f32 0, .float .f32 0, .float .f32 0, .float .f32 0, .float .f32 0, .float .f32 0, .float .f32 0, .float .f32 0, .float .f32 0, .float .f32 0, .float .f32 0, .float .f32 0, .float .f32 0, .float .f32 0, .float .f32 0, .float .f32 0, .float .f32 0, .float .f32 0, .float .f32 0, .float .f32 0, .float .f32 0, .float .f32 0, .float .f32 0, .float .f32 0, .float .f32 0, .float .f32 0, .float .f32 0, .float .f32 0, .float .f32 0, .float .f32 0, .float .f32 0, .float .f32 0, .float .f32 0, .float .f32 0, .float .f32 0, .float .f32 0, .float .f32 0, .float .f32 0, .float .f32 0, .float .f32 0, .float .f32 0, .float .f32 0, .float .f32 0, .float .f32 0, .float .f32 0, .float .f32 0, .float .f32 0, .float .f32 0, .float .f32 0, .float .f32 0, .float .f32 0, .float .f32 0, .float .f32 0, .int .u64 0]]
theorem fnExactLeakOf_j0 : (Rows.fnExactLeakOfRow.inPlace == Tryd.prog.inPlace 5) = true := by kernel_rfl
theorem fnExactLeakOf_j1 : (Rows.fnExactLeakOfRow.unfollowed == Tryd.prog.unfollowed 5) = true := by kernel_rfl
theorem fnExactLeakOf_j2 : (Rows.fnExactLeakOfRow.recurses == Tryd.prog.recurses 5) = true := by kernel_rfl
theorem fnExactLeakOf_j3 : (Rows.fnExactLeakOfRow.named == Tryd.prog.varsNamed 5) = true := by kernel_rfl
theorem fnExactLeakOf_jw : Rows.fnExactLeakOfRow.wf (OpenSpec.ofChange Rows.fnExactLeakOfSpec) = true := by kernel_rfl
theorem fnExactLeakOf_jn : namedTie Tryd.prog Rows.fnExactLeakOfRow.named Rows.fnExactLeakOfSpec.vars = true := by kernel_rfl
theorem fnExactLeakOf_jf : joinedFacts Tryd.prog 5 Tryd.f5 Rows.fnExactLeakOfSpec Rows.fnExactLeakOfRow = true := by
  unfold joinedFacts
  simp only [Bool.and_eq_true]
  exact ⟨⟨⟨⟨⟨⟨⟨⟨⟨⟨⟨⟨⟨⟨⟨⟨⟨⟨⟨⟨⟨⟨⟨⟨⟨⟨⟨⟨⟨⟨⟨fnExactLeakOf_jw, laidOut⟩, (by kernel_rfl)⟩, (by kernel_rfl)⟩, fnExactLeakOf_jn⟩, (by kernel_rfl)⟩, (by kernel_rfl)⟩, (by kernel_rfl)⟩, (by kernel_rfl)⟩, fnExactLeakOf_j0⟩, fnExactLeakOf_j1⟩, fnExactLeakOf_j2⟩, fnExactLeakOf_j3⟩, (by kernel_rfl)⟩, (by kernel_rfl)⟩, (by kernel_rfl)⟩, (by kernel_rfl)⟩, (by kernel_rfl)⟩, (by kernel_rfl)⟩, (by kernel_rfl)⟩, (by kernel_rfl)⟩, (by kernel_rfl)⟩, (by kernel_rfl)⟩, (by kernel_rfl)⟩, (by kernel_rfl)⟩, seat_me⟩, seat_lf⟩, seat_mk⟩, (by kernel_rfl)⟩, (by kernel_rfl)⟩, (by kernel_rfl)⟩, (by kernel_rfl)⟩
theorem fnExactLeakOf_nm : Tryd.pinned.checked.prog.funcNamed Rows.fnExactLeakOfRow.func = some 5 := by kernel_rfl
theorem fnExactLeakOf_rd : ∀ t ∈ Tryd.f5.params.toList, Tryd.prog.readableRec t = true ∧ t < Tryd.prog.types.size := by rw [Tryd.params5]; exact (by decide +kernel)
theorem fnExactLeakOf_ok (os : Os) : Input.okWideB Tryd.checked.prog ((World.doorLaid Tryd.prog 400 os).forCall (fun _ _ => 0) ⟨#[], fnExactLeakOf_w, []⟩) 5 ⟨#[], fnExactLeakOf_w, []⟩ = true := by kernel_rfl
theorem fnExactLeakOf_pb (os : Os) (H : Type) (enc : TypeId × Value → H) : Rows.fnExactLeakOfSpec.preB enc Tryd.checked.prog Tryd.f5 [] false ((World.doorLaid Tryd.prog 400 os).forCall (fun _ _ => 0) ⟨#[], fnExactLeakOf_w, []⟩).memory fnExactLeakOf_w 16 = true := by kernel_rfl
theorem fnExactLeakOf_sb (os : Os) (H : Type) (enc : TypeId × Value → H) : Rows.fnExactLeakOfSpec.sizedB enc Tryd.checked.prog Tryd.f5 false ((World.doorLaid Tryd.prog 400 os).forCall (fun _ _ => 0) ⟨#[], fnExactLeakOf_w, []⟩).memory fnExactLeakOf_w 16 = true := by kernel_rfl
theorem fnExactLeakOf_sh (os : Os) : ((World.doorLaid Tryd.prog 400 os).forCall (fun _ _ => 0) ⟨#[], fnExactLeakOf_w, []⟩).Shaped Tryd.checked.prog := World.shaped_of_B (by kernel_rfl) (by kernel_rfl)
theorem fnExactLeakOf_row : Rows.FnExactLeakOfSaid :=
  OpenClaim.holds_of_wide 5 Tryd.f5 rfl rfl rfl rfl rfl rfl rfl ⟨rfl, rfl, rfl, rfl, rfl⟩ rfl rfl rfl rfl rfl fnExactLeakOf_nm Tryd.func5 fnExactLeakOf_jf
    (of_decide_eq_true (by kernel_rfl)) (by unfold Func.isWrapper; first | (rw [if_pos (by decide +kernel)]; kernel_rfl) | (rw [if_neg (by decide +kernel)]; exact ⟨rfl, rfl⟩))
    (fun os started H enc _ => liftT 5 Tryd.f5 Rows.fnExactLeakOfSpec Tryd.func5 rfl rfl
      (fun H ds h => match ds, h with | [d0], _ => rfl)
      fnExactLeakOf_rd
      fnExactLeakOf_walk os started H enc (by kernel_rfl)
      (witnessT 5 Tryd.f5 Rows.fnExactLeakOfSpec fnExactLeakOf_w os H enc (fnExactLeakOf_sh os) (fnExactLeakOf_ok os) (fnExactLeakOf_pb os H enc) (fnExactLeakOf_sb os H enc)))

set_option maxRecDepth 100000 in
theorem fnExactLeakOf_holds : Rows.FnExactLeakOfCardSaid :=
  Claim7.holds_tied_plain_at .later [] [.data] true Rows.fnExactLeakOfCard.stood.harness Rows.fnExactLeakOfCard.stood.looks
    fnExactLeakOf_row (fun _ h => by cases h) (by kernel_rfl) (fun _ h => by cases h) fnExactLeakOf_row_tie rfl ⟨rfl, rfl⟩ seat_mi (by kernel_rfl)
    (fun f fn hf hfn => by
      obtain rfl : f = 5 := Option.some.inj ((show Tryd.prog.funcNamed "loop.example/g01288/laws.FnExactLeakOf" = some 5 by kernel_rfl).symm.trans hf) |>.symm
      obtain rfl : fn = Tryd.f5 := (Option.some.inj (Tryd.func5.symm.trans hfn)).symm
      refine ⟨by kernel_rfl, fun j t ht => ?_⟩
      have hall : Tryd.f5.params.toList.all (fun t => !Tryd.prog.wantsStandIn t) = true := by kernel_rfl
      have hm : t ∈ Tryd.f5.params.toList := Array.mem_toList_iff.2 (Array.mem_of_getElem? ht)
      have h := List.all_eq_true.1 hall t hm
      simp only [Bool.not_eq_true'] at h
      exact h)
    (by kernel_rfl)
#print axioms fnExactLeakOf_holds
end Go.Proofs.YtdhnneidkdoplaaDoor
