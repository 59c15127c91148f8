/- The law FnExactWithFixed of this commit: for every input the call returns true, and each argument reads afterwards as it read before. Condition: the table of math/bits is as its initialiser lays it (the card ties it to the program's text). -/
import Derived.Test.YtjbldgefabbgpaaDoorLawWithFixed
import Derived.Test.YtjbldgefabbgpaaDoorSeat
import Derived.Test.YtjbldgefabbgpaaDoorCards
import Derived.Test.YtjbldgefabbgpaaDoorTie
import Derived.SevenTiedAt
namespace Go.Proofs.YtjbldgefabbgpaaDoor
open Go.ChangeShapes Go.WideShapes Go.ChangeAt Go.RowKit

set_option maxRecDepth 100000
def fnExactWithFixed_w : Array Value := #[.agg #[.int .i8 0, .int .i8 0, .float .f32 0, .float .f32 0, .float .f32 0, .float .f32 0, .float .f32 0, .float .f32 0, .float .f32 0, .float .f32 0, .float .f32 0, .float .f32 0, .float .f32 0, .float .f32 0, .float .f32 0, .float .f32 0, .float .f32 0, .float .f32 0, .float .f32 0, .float .f32 0, .float .f32 0, .float .f32 0, .float .f32 0, .float .f32 0, .float .f32 0, .float .f32 0, .float .f32 0, .float .f32 0, .float .f32 0, .float .f32 0, .float .f32 0, .float .f32 0, .float .f32 0, .float .f32 0, .float .f32 0, .float .f32 0, .float .f32 0, .float .f32 0, .float .f32 0, .float .f32 0, .float .f32 0, .float .f32 0, .float .f32 0, .float .f32 0, .float .f32 0, .float .f32 0, .float .f32 0, .float .f32 0, .float .f32 0, .float .f32 0, .float .f32 0, .float .f32 0, .float .f32 0, .float .f32 0, .float .f32 0, .float .f32 0, .float .f32 0, .float .f32 0, .float .f32 0, .float .f32 0, .float .f32 0, .float .f32 0, .float .f32 0, .float .f32 0, .float .f32 0, .float .f32 0, .float .f32 0, .float .f32 0, .float .f32 0, .float .f32 0, .float .f32 0, .float .f32 0, .float .f32 0, .float .f32 0, .float .f32 0, .float .f32 0, .float .f32 0, .float .f32 0, .float .f32 0, .float .f32 0, .float .f32 0, .float .f32 0, .float .f32 0, .float .f32 0, .float .f32 0, .float .f32 0, .float .f32 0, .float .f32 0, .float .f32 0, .float .f32 0, .float .f32 0, .float .f32 0, .float .f32 0, .float .f32 0, .float .f32 0, .float .f32 0, .float .f32 0, .float .f32 0, .float .f32 0, .float .f32 0, .float .f32 0, .float .f32 0, .float .f32 0, .float .f32 0, .float .f32 0, .float .f32 0, .float .f32 0, .float .f32 0, .float .f32 0, .float .f32 0, .float .f32 0, .float .f32 0, .float .f32 0, .float .f32 0, .float .f32 0, .float .f32 0, .float .f32 0, .float .f32 0, .float .f32 0, .float .f32 0, .float .f32 0, .float .f32 0, .float .f32 0, .float .f32 0, .float .f32 0, .float .f32 0, .float .f32 0, .float .f32 0, .float .f32 0, .float .f32 0, .float .f32 0, .float .f32 0, .float .f32 0, .float .f32 0, .float .f32 0, .float .f32 0, .float .f32 0, .float .f32 0, .float .f32 0, .float .f32 0, .float .f32 0, .float .f32 0, .float .f32 0, .float .f32 0, .float .f32 0, .float .f32 0, .float .f32 0, .float .f32 0, .float .f32 0, .float .f32 0, .float .f32 0, .float .f32 0, .float .f32 0, .float .f32 0, .float .f32 0, .float .f32 0, .float .f32 0, .float .f32 0, .float .f32 0, .float .f32 0, .float .f32 0, .float .f32 0, .float .f32 0, .float .f32 0, .float .f32 0, .float .f32 0, .float .f32 0, .float .f32 0, .float .f32 0, .float .f32 0, .float .f32 0, .float .f32 0, .float .f32 0, .float .f32 0, .float .f32 0, .float .f32 0, .float .f32 0, .float .f32 0, .float .f32 0, .float .f32 0, .float .f32 0, .float .f32 0, .float .f32 0, .float .f32 0, .float .f32 0, .float .f32 0, .float .f32 0, .float .f32 0, .float .f32 0, .float .f32 0, .float .f32 0, .float .f32 0, .float .f32 0, .float .f32 0, .int .u64 0], .int .i64 0, .bool false]
theorem fnExactWithFixed_j0 : (Rows.fnExactWithFixedRow.inPlace == Tryd.prog.inPlace 10) = true := by kernel_rfl
theorem fnExactWithFixed_j1 : (Rows.fnExactWithFixedRow.unfollowed == Tryd.prog.unfollowed 10) = true := by kernel_rfl
theorem fnExactWithFixed_j2 : (Rows.fnExactWithFixedRow.recurses == Tryd.prog.recurses 10) = true := by kernel_rfl
theorem fnExactWithFixed_j3 : (Rows.fnExactWithFixedRow.named == Tryd.prog.varsNamed 10) = true := by kernel_rfl
theorem fnExactWithFixed_jw : Rows.fnExactWithFixedRow.wf (OpenSpec.ofChange Rows.fnExactWithFixedSpec) = true := by kernel_rfl
theorem fnExactWithFixed_jn : namedTie Tryd.prog Rows.fnExactWithFixedRow.named Rows.fnExactWithFixedSpec.vars = true := by kernel_rfl
theorem fnExactWithFixed_jf : joinedFacts Tryd.prog 10 Tryd.f10 Rows.fnExactWithFixedSpec Rows.fnExactWithFixedRow = true := by
  unfold joinedFacts
  simp only [Bool.and_eq_true]
  exact ⟨⟨⟨⟨⟨⟨⟨⟨⟨⟨⟨⟨⟨⟨⟨⟨⟨⟨⟨⟨⟨⟨⟨⟨⟨⟨⟨⟨⟨⟨⟨fnExactWithFixed_jw, laidOut⟩, (by kernel_rfl)⟩, (by kernel_rfl)⟩, fnExactWithFixed_jn⟩, (by kernel_rfl)⟩, (by kernel_rfl)⟩, (by kernel_rfl)⟩, (by kernel_rfl)⟩, fnExactWithFixed_j0⟩, fnExactWithFixed_j1⟩, fnExactWithFixed_j2⟩, fnExactWithFixed_j3⟩, (by kernel_rfl)⟩, (by kernel_rfl)⟩, (by kernel_rfl)⟩, (by kernel_rfl)⟩, (by kernel_rfl)⟩, (by kernel_rfl)⟩, (by kernel_rfl)⟩, (by kernel_rfl)⟩, (by kernel_rfl)⟩, (by kernel_rfl)⟩, (by kernel_rfl)⟩, (by kernel_rfl)⟩, seat_me⟩, seat_lf⟩, seat_mk⟩, (by kernel_rfl)⟩, (by kernel_rfl)⟩, (by kernel_rfl)⟩, (by kernel_rfl)⟩
theorem fnExactWithFixed_nm : Tryd.pinned.checked.prog.funcNamed Rows.fnExactWithFixedRow.func = some 10 := by kernel_rfl
theorem fnExactWithFixed_rd : ∀ t ∈ Tryd.f10.params.toList, Tryd.prog.readableRec t = true ∧ t < Tryd.prog.types.size := by rw [Tryd.params10]; exact (by decide +kernel)
theorem fnExactWithFixed_ok (os : Os) : Input.okWideB Tryd.checked.prog ((World.doorLaid Tryd.prog 400 os).forCall (fun _ _ => 0) ⟨#[], fnExactWithFixed_w, []⟩) 10 ⟨#[], fnExactWithFixed_w, []⟩ = true := by kernel_rfl
theorem fnExactWithFixed_pb (os : Os) (H : Type) (enc : TypeId × Value → H) : Rows.fnExactWithFixedSpec.preB enc Tryd.checked.prog Tryd.f10 [] false ((World.doorLaid Tryd.prog 400 os).forCall (fun _ _ => 0) ⟨#[], fnExactWithFixed_w, []⟩).memory fnExactWithFixed_w 16 = true := by kernel_rfl
theorem fnExactWithFixed_sb (os : Os) (H : Type) (enc : TypeId × Value → H) : Rows.fnExactWithFixedSpec.sizedB enc Tryd.checked.prog Tryd.f10 false ((World.doorLaid Tryd.prog 400 os).forCall (fun _ _ => 0) ⟨#[], fnExactWithFixed_w, []⟩).memory fnExactWithFixed_w 16 = true := by kernel_rfl
theorem fnExactWithFixed_sh (os : Os) : ((World.doorLaid Tryd.prog 400 os).forCall (fun _ _ => 0) ⟨#[], fnExactWithFixed_w, []⟩).Shaped Tryd.checked.prog := World.shaped_of_B (by kernel_rfl) (by kernel_rfl)
theorem fnExactWithFixed_row : Rows.FnExactWithFixedSaid :=
  OpenClaim.holds_of_wide 10 Tryd.f10 rfl rfl rfl rfl rfl rfl rfl ⟨rfl, rfl, rfl, rfl, rfl⟩ rfl rfl rfl rfl rfl fnExactWithFixed_nm Tryd.func10 fnExactWithFixed_jf
    (of_decide_eq_true (by kernel_rfl)) (by unfold Func.isWrapper; first | (rw [if_pos (by decide +kernel)]; kernel_rfl) | (rw [if_neg (by decide +kernel)]; exact ⟨rfl, rfl⟩))
    (fun os started H enc _ => liftT 10 Tryd.f10 Rows.fnExactWithFixedSpec Tryd.func10 rfl rfl
      (fun H ds h => match ds, h with | [d0, d1, d2], _ => rfl)
      fnExactWithFixed_rd
      fnExactWithFixed_walk os started H enc (by kernel_rfl)
      (witnessT 10 Tryd.f10 Rows.fnExactWithFixedSpec fnExactWithFixed_w os H enc (fnExactWithFixed_sh os) (fnExactWithFixed_ok os) (fnExactWithFixed_pb os H enc) (fnExactWithFixed_sb os H enc)))

set_option maxRecDepth 100000 in
theorem fnExactWithFixed_holds : Rows.FnExactWithFixedCardSaid :=
  Claim7.holds_tied_plain_at .later [] [.data] true Rows.fnExactWithFixedCard.stood.harness Rows.fnExactWithFixedCard.stood.looks
    fnExactWithFixed_row (fun _ h => by cases h) (by kernel_rfl) (fun _ h => by cases h) fnExactWithFixed_row_tie rfl ⟨rfl, rfl⟩ seat_mi (by kernel_rfl)
    (fun f fn hf hfn => by
      obtain rfl : f = 10 := Option.some.inj ((show Tryd.prog.funcNamed "loop.example/g01288/laws.FnExactWithFixed" = some 10 by kernel_rfl).symm.trans hf) |>.symm
      obtain rfl : fn = Tryd.f10 := (Option.some.inj (Tryd.func10.symm.trans hfn)).symm
      refine ⟨by kernel_rfl, fun j t ht => ?_⟩
      have hall : Tryd.f10.params.toList.all (fun t => !Tryd.prog.wantsStandIn t) = true := by kernel_rfl
      have hm : t ∈ Tryd.f10.params.toList := Array.mem_toList_iff.2 (Array.mem_of_getElem? ht)
      have h := List.all_eq_true.1 hall t hm
      simp only [Bool.not_eq_true'] at h
      exact h)
    (by kernel_rfl)
#print axioms fnExactWithFixed_holds
end Go.Proofs.YtjbldgefabbgpaaDoor
