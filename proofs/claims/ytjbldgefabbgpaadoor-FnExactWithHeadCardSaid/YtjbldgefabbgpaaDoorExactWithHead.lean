/- The law FnExactWithHead of this commit: for every input the call returns true, and each argument reads afterwards as it read before. Condition: the table of math/bits is as its initialiser lays it (the card ties it to the program's text). -/
import Derived.Test.YtjbldgefabbgpaaDoorLawWithHead
import Derived.Test.YtjbldgefabbgpaaDoorSeat
import Derived.Test.YtjbldgefabbgpaaDoorCards
import Derived.Test.YtjbldgefabbgpaaDoorTie
import Derived.SevenTiedAt
namespace Go.Proofs.YtjbldgefabbgpaaDoor
open Go.ChangeShapes Go.WideShapes Go.ChangeAt Go.RowKit

set_option maxRecDepth 100000
def fnExactWithHead_w : Array Value := #[.agg #[.int .i8 0, .int .i8 0, .float .f32 0, .float .f32 0, .float .f32 0, .float .f32 0, .float .f32 0, .float .f32 0, .float .f32 0, .float .f32 0, .float .f32 0, .float .f32 0, .float .f32 0, .float .f32 0, .float .f32 0, .float .f32 0, .float .f32 0, .float .f32 0, .float .f32 0, .float .f32 0, .float .f32 0, .float .f32 0, .float .f32 0, .float .f32 0, .float .f32 0, .float .f32 0, .float .f32 0, .float .f32 0, .float .f32 0, .float .f32 0, .float .f32 0, .float .f32 0, .float .f32 0, .float .f32 0, .float .f32 0, .float .f32 0, .float .f32 0, .float .f32 0, .float .f32 0, .float .f32 0, .float .f32 0, .float .f32 0, .float .f32 0, .float .f32 0, .float .f32 0, .float .f32 0, .float .f32 0, .float .f32 0, .float .f32 0, .float .f32 0, .float .f32 0, .float .f32 0, .float .f32 0, .float .f32 0, .float .f32 0, .float .f32 0, .float .f32 0, .float .f32 0, .float .f32 0, .float .f32 0, .float .f32 0, .float .f32 0, .float .f32 0, .float .f32 0, .float .f32 0, .float .f32 0, .float .f32 0, .float .f32 0, .float .f32 0, .float .f32 0, .float .f32 0, .float .f32 0, .float .f32 0, .float .f32 0, .float .f32 0, .float .f32 0, .float .f32 0, .float .f32 0, .float .f32 0, .float .f32 0, .float .f32 0, .float .f32 0, .float .f32 0, .float .f32 0, .float .f32 0, .float .f32 0, .float .f32 0, .float .f32 0, .float .f32 0, .float .f32 0, .float .f32 0, .float .f32 0, .float .f32 0, .float .f32 0, .float .f32 0, .float .f32 0, .float .f32 0, .float .f32 0, .float .f32 0, .float .f32 0, .float .f32 0, .float .f32 0, .float .f32 0, .float .f32 0, .float .f32 0, .float .f32 0, .float .f32 0, .float .f32 0, .float .f32 0, .float .f32 0, .float .f32 0, .float .f32 0, .float .f32 0, .float .f32 0, .float .f32 0, .float .f32 0, .float .f32 0, .float .f32 0, .float .f32 0, .float .f32 0, .float .f32 0, .float .f32 0, .float .f32 0, .float .f32 0, .float .f32 0, .float .f32 0, .float .f32 0, .float .f32 0, .float .f32 0, .float .f32 0, .float .f32 0, .float .f32 0, .float .f32 0, .float .f32 0, .float .f32 0, .float .f32 0, .float .f32 0, .float .f32 0, .float .f32 0, .float .f32 0, .float .f32 0, .float .f32 0, .float .f32 0, .float .f32 0, .float .f32 0, .float .f32 0, .float .f32 0, .float .f32 0, .float .f32 0, .float .f32 0, .float .f32 0, .float .f32 0, .float .f32 0, .float .f32 0, .float .f32 0, .float .f32 0, .float .f32 0, .float .f32 0, .float .f32 0, .float .f32 0, .float .f32 0, .float .f32 0, .float .f32 0, .float .f32 0, .float .f32 0, .float .f32 0, .float .f32 0, .float .f32 0, .float .f32 0, .float .f32 0, .float .f32 0, .float .f32 0, .float .f32 0, .float .f32 0, .float .f32 0, .float .f32 0, .float .f32 0, .float .f32 0, .float .f32 0, .float .f32 0, .float .f32 0, .float .f32 0, .float .f32 0, .float .f32 0, .float .f32 0, .float .f32 0, .float .f32 0, .float .f32 0, .float .f32 0, .float .f32 0, .float .f32 0, .float .f32 0, .float .f32 0, .float .f32 0, .int .u64 0], .int .i64 0, .float .f32 0]
theorem fnExactWithHead_j0 : (Rows.fnExactWithHeadRow.inPlace == Tryd.prog.inPlace 7) = true := by kernel_rfl
theorem fnExactWithHead_j1 : (Rows.fnExactWithHeadRow.unfollowed == Tryd.prog.unfollowed 7) = true := by kernel_rfl
theorem fnExactWithHead_j2 : (Rows.fnExactWithHeadRow.recurses == Tryd.prog.recurses 7) = true := by kernel_rfl
theorem fnExactWithHead_j3 : (Rows.fnExactWithHeadRow.named == Tryd.prog.varsNamed 7) = true := by kernel_rfl
theorem fnExactWithHead_jw : Rows.fnExactWithHeadRow.wf (OpenSpec.ofChange Rows.fnExactWithHeadSpec) = true := by kernel_rfl
theorem fnExactWithHead_jn : namedTie Tryd.prog Rows.fnExactWithHeadRow.named Rows.fnExactWithHeadSpec.vars = true := by kernel_rfl
theorem fnExactWithHead_jf : joinedFacts Tryd.prog 7 Tryd.f7 Rows.fnExactWithHeadSpec Rows.fnExactWithHeadRow = true := by
  unfold joinedFacts
  simp only [Bool.and_eq_true]
  exact ⟨⟨⟨⟨⟨⟨⟨⟨⟨⟨⟨⟨⟨⟨⟨⟨⟨⟨⟨⟨⟨⟨⟨⟨⟨⟨⟨⟨⟨⟨⟨fnExactWithHead_jw, laidOut⟩, (by kernel_rfl)⟩, (by kernel_rfl)⟩, fnExactWithHead_jn⟩, (by kernel_rfl)⟩, (by kernel_rfl)⟩, (by kernel_rfl)⟩, (by kernel_rfl)⟩, fnExactWithHead_j0⟩, fnExactWithHead_j1⟩, fnExactWithHead_j2⟩, fnExactWithHead_j3⟩, (by kernel_rfl)⟩, (by kernel_rfl)⟩, (by kernel_rfl)⟩, (by kernel_rfl)⟩, (by kernel_rfl)⟩, (by kernel_rfl)⟩, (by kernel_rfl)⟩, (by kernel_rfl)⟩, (by kernel_rfl)⟩, (by kernel_rfl)⟩, (by kernel_rfl)⟩, (by kernel_rfl)⟩, seat_me⟩, seat_lf⟩, seat_mk⟩, (by kernel_rfl)⟩, (by kernel_rfl)⟩, (by kernel_rfl)⟩, (by kernel_rfl)⟩
theorem fnExactWithHead_nm : Tryd.pinned.checked.prog.funcNamed Rows.fnExactWithHeadRow.func = some 7 := by kernel_rfl
theorem fnExactWithHead_rd : ∀ t ∈ Tryd.f7.params.toList, Tryd.prog.readableRec t = true ∧ t < Tryd.prog.types.size := by rw [Tryd.params7]; exact (by decide +kernel)
theorem fnExactWithHead_ok (os : Os) : Input.okWideB Tryd.checked.prog ((World.doorLaid Tryd.prog 400 os).forCall (fun _ _ => 0) ⟨#[], fnExactWithHead_w, []⟩) 7 ⟨#[], fnExactWithHead_w, []⟩ = true := by kernel_rfl
theorem fnExactWithHead_pb (os : Os) (H : Type) (enc : TypeId × Value → H) : Rows.fnExactWithHeadSpec.preB enc Tryd.checked.prog Tryd.f7 [] false ((World.doorLaid Tryd.prog 400 os).forCall (fun _ _ => 0) ⟨#[], fnExactWithHead_w, []⟩).memory fnExactWithHead_w 16 = true := by kernel_rfl
theorem fnExactWithHead_sb (os : Os) (H : Type) (enc : TypeId × Value → H) : Rows.fnExactWithHeadSpec.sizedB enc Tryd.checked.prog Tryd.f7 false ((World.doorLaid Tryd.prog 400 os).forCall (fun _ _ => 0) ⟨#[], fnExactWithHead_w, []⟩).memory fnExactWithHead_w 16 = true := by kernel_rfl
theorem fnExactWithHead_sh (os : Os) : ((World.doorLaid Tryd.prog 400 os).forCall (fun _ _ => 0) ⟨#[], fnExactWithHead_w, []⟩).Shaped Tryd.checked.prog := World.shaped_of_B (by kernel_rfl) (by kernel_rfl)
theorem fnExactWithHead_row : Rows.FnExactWithHeadSaid :=
  OpenClaim.holds_of_wide 7 Tryd.f7 rfl rfl rfl rfl rfl rfl rfl ⟨rfl, rfl, rfl, rfl, rfl⟩ rfl rfl rfl rfl rfl fnExactWithHead_nm Tryd.func7 fnExactWithHead_jf
    (of_decide_eq_true (by kernel_rfl)) (by unfold Func.isWrapper; first | (rw [if_pos (by decide +kernel)]; kernel_rfl) | (rw [if_neg (by decide +kernel)]; exact ⟨rfl, rfl⟩))
    (fun os started H enc _ => liftT 7 Tryd.f7 Rows.fnExactWithHeadSpec Tryd.func7 rfl rfl
      (fun H ds h => match ds, h with | [d0, d1, d2], _ => rfl)
      fnExactWithHead_rd
      fnExactWithHead_walk os started H enc (by kernel_rfl)
      (witnessT 7 Tryd.f7 Rows.fnExactWithHeadSpec fnExactWithHead_w os H enc (fnExactWithHead_sh os) (fnExactWithHead_ok os) (fnExactWithHead_pb os H enc) (fnExactWithHead_sb os H enc)))

set_option maxRecDepth 100000 in
theorem fnExactWithHead_holds : Rows.FnExactWithHeadCardSaid :=
  Claim7.holds_tied_plain_at .later [] [.data] true Rows.fnExactWithHeadCard.stood.harness Rows.fnExactWithHeadCard.stood.looks
    fnExactWithHead_row (fun _ h => by cases h) (by kernel_rfl) (fun _ h => by cases h) fnExactWithHead_row_tie rfl ⟨rfl, rfl⟩ seat_mi (by kernel_rfl)
    (fun f fn hf hfn => by
      obtain rfl : f = 7 := Option.some.inj ((show Tryd.prog.funcNamed "loop.example/g01288/laws.FnExactWithHead" = some 7 by kernel_rfl).symm.trans hf) |>.symm
      obtain rfl : fn = Tryd.f7 := (Option.some.inj (Tryd.func7.symm.trans hfn)).symm
      refine ⟨by kernel_rfl, fun j t ht => ?_⟩
      have hall : Tryd.f7.params.toList.all (fun t => !Tryd.prog.wantsStandIn t) = true := by kernel_rfl
      have hm : t ∈ Tryd.f7.params.toList := Array.mem_toList_iff.2 (Array.mem_of_getElem? ht)
      have h := List.all_eq_true.1 hall t hm
      simp only [Bool.not_eq_true'] at h
      exact h)
    (by kernel_rfl)
#print axioms fnExactWithHead_holds
end Go.Proofs.YtjbldgefabbgpaaDoor
