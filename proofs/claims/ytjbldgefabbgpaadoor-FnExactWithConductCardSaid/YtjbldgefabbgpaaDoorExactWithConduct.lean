/- The law FnExactWithConduct of this commit: for every input the call returns true, and each argument reads afterwards as it read before. Condition: the table of math/bits is as its initialiser lays it (the card ties it to the program's text). -/
import Derived.Test.YtjbldgefabbgpaaDoorLawWithConduct
import Derived.Test.YtjbldgefabbgpaaDoorSeat
import Derived.Test.YtjbldgefabbgpaaDoorCards
import Derived.Test.YtjbldgefabbgpaaDoorTie
import Derived.SevenTiedAt
namespace Go.Proofs.YtjbldgefabbgpaaDoor
open Go.ChangeShapes Go.WideShapes Go.ChangeAt Go.RowKit

set_option maxRecDepth 100000
def fnExactWithConduct_w : Array Value := #[.agg #[.int .i8 0, .int .i8 0, .float .f32 0, .float .f32 0, .float .f32 0, .float .f32 0, .float .f32 0, .float .f32 0, .float .f32 0, .float .f32 0, .float .f32 0, .float .f32 0, .float .f32 0, .float .f32 0, .float .f32 0, .float .f32 0, .float .f32 0, .float .f32 0, .float .f32 0, .float .f32 0, .float .f32 0, .float .f32 0, .float .f32 0, .float .f32 0, .float .f32 0, .float .f32 0, .float .f32 0, .float .f32 0, .float .f32 0, .float .f32 0, .float .f32 0, .float .f32 0, .float .f32 0, .float .f32 0, .float .f32 0, .float .f32 0, .float .f32 0, .float .f32 0, .float .f32 0, .float .f32 0, .float .f32 0, .float .f32 0, .float .f32 0, .float .f32 0, .float .f32 0, .float .f32 0, .float .f32 0, .float .f32 0, .float .f32 0, .float .f32 0, .float .f32 0, .float .f32 0, .float .f32 0, .float .f32 0, .float .f32 0, .float .f32 0, .float .f32 0, .float .f32 0, .float .f32 0, .float .f32 0, .float .f32 0, .float .f32 0, .float .f32 0, .float .f32 0, .float .f32 0, .float .f32 0, .float .f32 0, .float .f32 0, .float .f32 0, .float .f32 0, .float .f32 0, .float .f32 0, .float .f32 0, .float .f32 0, .float .f32 0, .float .f32 0, .float .f32 0, .float .f32 0, .float .f32 0, .float .f32 0, .float .f32 0, .float .f32 0, .float .f32 0, .float .f32 0, .float .f32 0, .float .f32 0, .float .f32 0, .float .f32 0, .float .f32 0, .float .f32 0, .float .f32 0, .float .f32 0, .float .f32 0, .float .f32 0, .float .f32 0, .float .f32 0, .float .f32 0, .float .f32 0, .float .f32 0, .float .f32 0, .float .f32 0, .float .f32 0, .float .f32 0, .float .f32 0, .float .f32 0, .float .f32 0, .float .f32 0, .float .f32 0, .float .f32 0, .float .f32 0, .float .f32 0, .float .f32 0, .float .f32 0, .float .f32 0, .float .f32 0, .float .f32 0, .float .f32 0, .float .f32 0, .float .f32 0, .float .f32 0, .float .f32 0, .float .f32 0, .float .f32 0, .float .f32 0, .float .f32 0, .float .f32 0, .float .f32 0, .float .f32 0, .float .f32 0, .float .f32 0, .float .f32 0, .float .f32 0, .float .f32 0, .float .f32 0, .float .f32 0, .float .f32 0, .float .f32 0, .float .f32 0, .float .f32 0, .float .f32 0, .float .f32 0, .float .f32 0, .float .f32 0, .float .f32 0, .float .f32 0, .float .f32 0, .float .f32 0, .float .f32 0, .float .f32 0, .float .f32 0, .float .f32 0, .float .f32 0, .float .f32 0, .float .f32 0, .float .f32 0, .float .f32 0, .float .f32 0, .float .f32 0, .float .f32 0, .float .f32 0, .float .f32 0, .float .f32 0, .float .f32 0, .float .f32 0, .float .f32 0, .float .f32 0, .float .f32 0, .float .f32 0, .float .f32 0, .float .f32 0, .float .f32 0, .float .f32 0, .float .f32 0, .float .f32 0, .float .f32 0, .float .f32 0, .float .f32 0, .float .f32 0, .float .f32 0, .float .f32 0, .float .f32 0, .float .f32 0, .float .f32 0, .float .f32 0, .float .f32 0, .float .f32 0, .float .f32 0, .float .f32 0, .float .f32 0, .float .f32 0, .float .f32 0, .float .f32 0, .float .f32 0, .float .f32 0, .int .u64 0], .int .i64 0, .float .f32 0]
theorem fnExactWithConduct_j0 : (Rows.fnExactWithConductRow.inPlace == Tryd.prog.inPlace 9) = true := by kernel_rfl
theorem fnExactWithConduct_j1 : (Rows.fnExactWithConductRow.unfollowed == Tryd.prog.unfollowed 9) = true := by kernel_rfl
theorem fnExactWithConduct_j2 : (Rows.fnExactWithConductRow.recurses == Tryd.prog.recurses 9) = true := by kernel_rfl
theorem fnExactWithConduct_j3 : (Rows.fnExactWithConductRow.named == Tryd.prog.varsNamed 9) = true := by kernel_rfl
theorem fnExactWithConduct_jw : Rows.fnExactWithConductRow.wf (OpenSpec.ofChange Rows.fnExactWithConductSpec) = true := by kernel_rfl
theorem fnExactWithConduct_jn : namedTie Tryd.prog Rows.fnExactWithConductRow.named Rows.fnExactWithConductSpec.vars = true := by kernel_rfl
theorem fnExactWithConduct_jf : joinedFacts Tryd.prog 9 Tryd.f9 Rows.fnExactWithConductSpec Rows.fnExactWithConductRow = true := by
  unfold joinedFacts
  simp only [Bool.and_eq_true]
  exact ⟨⟨⟨⟨⟨⟨⟨⟨⟨⟨⟨⟨⟨⟨⟨⟨⟨⟨⟨⟨⟨⟨⟨⟨⟨⟨⟨⟨⟨⟨⟨fnExactWithConduct_jw, laidOut⟩, (by kernel_rfl)⟩, (by kernel_rfl)⟩, fnExactWithConduct_jn⟩, (by kernel_rfl)⟩, (by kernel_rfl)⟩, (by kernel_rfl)⟩, (by kernel_rfl)⟩, fnExactWithConduct_j0⟩, fnExactWithConduct_j1⟩, fnExactWithConduct_j2⟩, fnExactWithConduct_j3⟩, (by kernel_rfl)⟩, (by kernel_rfl)⟩, (by kernel_rfl)⟩, (by kernel_rfl)⟩, (by kernel_rfl)⟩, (by kernel_rfl)⟩, (by kernel_rfl)⟩, (by kernel_rfl)⟩, (by kernel_rfl)⟩, (by kernel_rfl)⟩, (by kernel_rfl)⟩, (by kernel_rfl)⟩, seat_me⟩, seat_lf⟩, seat_mk⟩, (by kernel_rfl)⟩, (by kernel_rfl)⟩, (by kernel_rfl)⟩, (by kernel_rfl)⟩
theorem fnExactWithConduct_nm : Tryd.pinned.checked.prog.funcNamed Rows.fnExactWithConductRow.func = some 9 := by kernel_rfl
theorem fnExactWithConduct_rd : ∀ t ∈ Tryd.f9.params.toList, Tryd.prog.readableRec t = true ∧ t < Tryd.prog.types.size := by rw [Tryd.params9]; exact (by decide +kernel)
theorem fnExactWithConduct_ok (os : Os) : Input.okWideB Tryd.checked.prog ((World.doorLaid Tryd.prog 400 os).forCall (fun _ _ => 0) ⟨#[], fnExactWithConduct_w, []⟩) 9 ⟨#[], fnExactWithConduct_w, []⟩ = true := by kernel_rfl
theorem fnExactWithConduct_pb (os : Os) (H : Type) (enc : TypeId × Value → H) : Rows.fnExactWithConductSpec.preB enc Tryd.checked.prog Tryd.f9 [] false ((World.doorLaid Tryd.prog 400 os).forCall (fun _ _ => 0) ⟨#[], fnExactWithConduct_w, []⟩).memory fnExactWithConduct_w 16 = true := by kernel_rfl
theorem fnExactWithConduct_sb (os : Os) (H : Type) (enc : TypeId × Value → H) : Rows.fnExactWithConductSpec.sizedB enc Tryd.checked.prog Tryd.f9 false ((World.doorLaid Tryd.prog 400 os).forCall (fun _ _ => 0) ⟨#[], fnExactWithConduct_w, []⟩).memory fnExactWithConduct_w 16 = true := by kernel_rfl
theorem fnExactWithConduct_sh (os : Os) : ((World.doorLaid Tryd.prog 400 os).forCall (fun _ _ => 0) ⟨#[], fnExactWithConduct_w, []⟩).Shaped Tryd.checked.prog := World.shaped_of_B (by kernel_rfl) (by kernel_rfl)
theorem fnExactWithConduct_row : Rows.FnExactWithConductSaid :=
  OpenClaim.holds_of_wide 9 Tryd.f9 rfl rfl rfl rfl rfl rfl rfl ⟨rfl, rfl, rfl, rfl, rfl⟩ rfl rfl rfl rfl rfl fnExactWithConduct_nm Tryd.func9 fnExactWithConduct_jf
    (of_decide_eq_true (by kernel_rfl)) (by unfold Func.isWrapper; first | (rw [if_pos (by decide +kernel)]; kernel_rfl) | (rw [if_neg (by decide +kernel)]; exact ⟨rfl, rfl⟩))
    (fun os started H enc _ => liftT 9 Tryd.f9 Rows.fnExactWithConductSpec Tryd.func9 rfl rfl
      (fun H ds h => match ds, h with | [d0, d1, d2], _ => rfl)
      fnExactWithConduct_rd
      fnExactWithConduct_walk os started H enc (by kernel_rfl)
      (witnessT 9 Tryd.f9 Rows.fnExactWithConductSpec fnExactWithConduct_w os H enc (fnExactWithConduct_sh os) (fnExactWithConduct_ok os) (fnExactWithConduct_pb os H enc) (fnExactWithConduct_sb os H enc)))

set_option maxRecDepth 100000 in
theorem fnExactWithConduct_holds : Rows.FnExactWithConductCardSaid :=
  Claim7.holds_tied_plain_at .later [] [.data] true Rows.fnExactWithConductCard.stood.harness Rows.fnExactWithConductCard.stood.looks
    fnExactWithConduct_row (fun _ h => by cases h) (by kernel_rfl) (fun _ h => by cases h) fnExactWithConduct_row_tie rfl ⟨rfl, rfl⟩ seat_mi (by kernel_rfl)
    (fun f fn hf hfn => by
      obtain rfl : f = 9 := Option.some.inj ((show Tryd.prog.funcNamed "loop.example/g01288/laws.FnExactWithConduct" = some 9 by kernel_rfl).symm.trans hf) |>.symm
      obtain rfl : fn = Tryd.f9 := (Option.some.inj (Tryd.func9.symm.trans hfn)).symm
      refine ⟨by kernel_rfl, fun j t ht => ?_⟩
      have hall : Tryd.f9.params.toList.all (fun t => !Tryd.prog.wantsStandIn t) = true := by kernel_rfl
      have hm : t ∈ Tryd.f9.params.toList := Array.mem_toList_iff.2 (Array.mem_of_getElem? ht)
      have h := List.all_eq_true.1 hall t hm
      simp only [Bool.not_eq_true'] at h
      exact h)
    (by kernel_rfl)
#print axioms fnExactWithConduct_holds
end Go.Proofs.YtjbldgefabbgpaaDoor
