/- The law FnExactSweepInOrder of this commit: for every input the call returns true, and each argument reads afterwards as it read before. Condition: the table of math/bits is as its initialiser lays it (the card ties it to the program's text). -/
import Derived.Test.YtdhnneidkdoplaaDoorLawSweepInOrder
import Derived.Test.YtdhnneidkdoplaaDoorSeat
import Derived.Test.YtdhnneidkdoplaaDoorCards
import Derived.Test.YtdhnneidkdoplaaDoorTie
import Derived.SevenTiedAt
namespace Go.Proofs.YtdhnneidkdoplaaDoor
open Go.ChangeShapes Go.WideShapes Go.ChangeAt Go.RowKit

set_option maxRecDepth 100000
def fnExactSweepInOrder_w : Array Value := #[.agg #[.int .i8 0, .int .i8 0, .float .f32 0, .float .f32 0, .float .f32 0, .float .f32 0, .float .f32 0, .float .f32 0, .float .f32 0, .float .f32 0, .float .f32 0, .float .f32 0, .float .f32 0, .float .f32 0, .float .f32 0, .float .f32 0, .float .f32 0, .float .f32 0, .float .f32 0, .float .f32 0, .float .f32 0, .float .f32 0, .float .f32 0, .float .f32 0, .float .f32 0, .float .f32 0, .float .f32 0, .float .f32 0, .float .f32 0, .float .f32 0, .float .f32 0, .float .f32 0, .float .f32 0, .float .f32 0, .float .f32 0, .float .f32 0, .float .f32 0, .float .f32 0, .float .f32 0, .float .f32 0, .float .f32 0, .float .f32 0, .float .f32 0, .float .f32 0, .float .f32 0, .float .f32 0, .float .f32 0, .float .f32 0, .float .f32 0, .float .f32 0, .float .f32 0, .float .f32 0, .float .f32 0, .float .f32 0, .float .f32 0, .float .f32 0, .float .f32 0, .float .f32 0, .float .f32 0, .float .f32 0, .float .f32 0, .float .f32 0, .float .f32 0, .float .f32 0, .float .f32 0, .float .f32 0, .float .f32 0, .float .f32 0, .float .f32 0, .float .f32 0, .float .f32 0, .float .f32 0, .float .f32 0, .float .f32 0, .float .f32 0, .float .f32 0, .float .f32 0, .float .f32 0, .float .f32 0, .float .f32 0, .float .f32 0, .float .f32 0, .float .f32 0, .float .f32 0, .float .f32 0, .float .f32 0, .float .f32 0, .float .f32 0, .float .f32 0, .float .f32 0, .float .f32 0, .float .f32 0, .float .f32 0, .float .f32 0, .float .f32 0, .float .f32 0, .float .f32 0, .float .f32 0, .float .f32 0, .float .f32 0, .float .f32 0, .float .f32 0, .float .f32 0, .float .f32 0, .float .f32 0, .float .f32 0, .float .f32 0, .float .f32 0, .float .f32 0, .float .f32 0, .float .f32 0, .float .f32 0, .float .f32 0, .float .f32 0, .float .f32 0, .float .f32 0, .float .f32 0, .float .f32 0, .float .f32 0, .float .f32 0, .float .f32 0, .float .f32 0, .float .f32 0, .float .f32 0, .float .f32 0, .float .f32 0, .float .f32 0, .float .f32 0, .float .f32 0, .float .f32 0, .float .f32 0, .float .f32 0, .float .f32 0, .float .f32 0, .float .f32 0, .float .f32 0, .float .f32 0, .float .f32 0, .float .f32 0, .float .f32 0, .float .f32 0, .float .f32 0, .float .f32 0, .float .f32 0, .float .f32 0, .float .f32 0, .float .f32 0, .float .f32 0, .float .f32 0, .float .f32 0, .float .f32 0, .float .f32 0, .float .f32 0, .float .f32 0, .float .f32 0, .float .f32 0, .float .f32 0, .float .f32 0, .float .f32 0, .float .f32 0, .float .f32 0, .float .f32 0, .float .f32 0, .float .f32 0, .float .f32 0, .float .f32 0, .float .f32 0, .float .f32 0, .float .f32 0, .float .f32 0, .float .f32 0, .float .f32 0, .float .f32 0, .float .f32 0, .float .f32 0, .float .f32 0, .float .f32 0, .float .f32 0, .float .f32 0, .float .f32 0, .float .f32 0, .float .f32 0, .float .f32 0, .float .f32 0, .float .f32 0, .float .f32 0, .float .f32 0, .float .f32 0, .float .f32 0, .float .f32 0, .float .f32 0, .float .f32 0, .float .f32 0, .float .f32 0, .int .u64 0]]
theorem fnExactSweepInOrder_j0 : (Rows.fnExactSweepInOrderRow.inPlace == Tryd.prog.inPlace 11) = true := by kernel_rfl
theorem fnExactSweepInOrder_j1 : (Rows.fnExactSweepInOrderRow.unfollowed == Tryd.prog.unfollowed 11) = true := by kernel_rfl
theorem fnExactSweepInOrder_j2 : (Rows.fnExactSweepInOrderRow.recurses == Tryd.prog.recurses 11) = true := by kernel_rfl
theorem fnExactSweepInOrder_j3 : (Rows.fnExactSweepInOrderRow.named == Tryd.prog.varsNamed 11) = true := by kernel_rfl
theorem fnExactSweepInOrder_jw : Rows.fnExactSweepInOrderRow.wf (OpenSpec.ofChange Rows.fnExactSweepInOrderSpec) = true := by kernel_rfl
theorem fnExactSweepInOrder_jn : namedTie Tryd.prog Rows.fnExactSweepInOrderRow.named Rows.fnExactSweepInOrderSpec.vars = true := by kernel_rfl
theorem fnExactSweepInOrder_jf : joinedFacts Tryd.prog 11 Tryd.f11 Rows.fnExactSweepInOrderSpec Rows.fnExactSweepInOrderRow = true := by
  unfold joinedFacts
  simp only [Bool.and_eq_true]
  exact ⟨⟨⟨⟨⟨⟨⟨⟨⟨⟨⟨⟨⟨⟨⟨⟨⟨⟨⟨⟨⟨⟨⟨⟨⟨⟨⟨⟨⟨⟨⟨fnExactSweepInOrder_jw, laidOut⟩, (by kernel_rfl)⟩, (by kernel_rfl)⟩, fnExactSweepInOrder_jn⟩, (by kernel_rfl)⟩, (by kernel_rfl)⟩, (by kernel_rfl)⟩, (by kernel_rfl)⟩, fnExactSweepInOrder_j0⟩, fnExactSweepInOrder_j1⟩, fnExactSweepInOrder_j2⟩, fnExactSweepInOrder_j3⟩, (by kernel_rfl)⟩, (by kernel_rfl)⟩, (by kernel_rfl)⟩, (by kernel_rfl)⟩, (by kernel_rfl)⟩, (by kernel_rfl)⟩, (by kernel_rfl)⟩, (by kernel_rfl)⟩, (by kernel_rfl)⟩, (by kernel_rfl)⟩, (by kernel_rfl)⟩, (by kernel_rfl)⟩, seat_me⟩, seat_lf⟩, seat_mk⟩, (by kernel_rfl)⟩, (by kernel_rfl)⟩, (by kernel_rfl)⟩, (by kernel_rfl)⟩
theorem fnExactSweepInOrder_nm : Tryd.pinned.checked.prog.funcNamed Rows.fnExactSweepInOrderRow.func = some 11 := by kernel_rfl
theorem fnExactSweepInOrder_rd : ∀ t ∈ Tryd.f11.params.toList, Tryd.prog.readableRec t = true ∧ t < Tryd.prog.types.size := by rw [Tryd.params11]; exact (by decide +kernel)
theorem fnExactSweepInOrder_ok (os : Os) : Input.okWideB Tryd.checked.prog ((World.doorLaid Tryd.prog 400 os).forCall (fun _ _ => 0) ⟨#[], fnExactSweepInOrder_w, []⟩) 11 ⟨#[], fnExactSweepInOrder_w, []⟩ = true := by kernel_rfl
theorem fnExactSweepInOrder_pb (os : Os) (H : Type) (enc : TypeId × Value → H) : Rows.fnExactSweepInOrderSpec.preB enc Tryd.checked.prog Tryd.f11 [] false ((World.doorLaid Tryd.prog 400 os).forCall (fun _ _ => 0) ⟨#[], fnExactSweepInOrder_w, []⟩).memory fnExactSweepInOrder_w 16 = true := by kernel_rfl
theorem fnExactSweepInOrder_sb (os : Os) (H : Type) (enc : TypeId × Value → H) : Rows.fnExactSweepInOrderSpec.sizedB enc Tryd.checked.prog Tryd.f11 false ((World.doorLaid Tryd.prog 400 os).forCall (fun _ _ => 0) ⟨#[], fnExactSweepInOrder_w, []⟩).memory fnExactSweepInOrder_w 16 = true := by kernel_rfl
theorem fnExactSweepInOrder_sh (os : Os) : ((World.doorLaid Tryd.prog 400 os).forCall (fun _ _ => 0) ⟨#[], fnExactSweepInOrder_w, []⟩).Shaped Tryd.checked.prog := World.shaped_of_B (by kernel_rfl) (by kernel_rfl)
theorem fnExactSweepInOrder_row : Rows.FnExactSweepInOrderSaid :=
  OpenClaim.holds_of_wide 11 Tryd.f11 rfl rfl rfl rfl rfl rfl rfl ⟨rfl, rfl, rfl, rfl, rfl⟩ rfl rfl rfl rfl rfl fnExactSweepInOrder_nm Tryd.func11 fnExactSweepInOrder_jf
    (of_decide_eq_true (by kernel_rfl)) (by unfold Func.isWrapper; first | (rw [if_pos (by decide +kernel)]; kernel_rfl) | (rw [if_neg (by decide +kernel)]; exact ⟨rfl, rfl⟩))
    (fun os started H enc _ => liftT 11 Tryd.f11 Rows.fnExactSweepInOrderSpec Tryd.func11 rfl rfl
      (fun H ds h => match ds, h with | [d0], _ => rfl)
      fnExactSweepInOrder_rd
      fnExactSweepInOrder_walk os started H enc (by kernel_rfl)
      (witnessT 11 Tryd.f11 Rows.fnExactSweepInOrderSpec fnExactSweepInOrder_w os H enc (fnExactSweepInOrder_sh os) (fnExactSweepInOrder_ok os) (fnExactSweepInOrder_pb os H enc) (fnExactSweepInOrder_sb os H enc)))

set_option maxRecDepth 100000 in
theorem fnExactSweepInOrder_holds : Rows.FnExactSweepInOrderCardSaid :=
  Claim7.holds_tied_plain_at .later [] [.data] true Rows.fnExactSweepInOrderCard.stood.harness Rows.fnExactSweepInOrderCard.stood.looks
    fnExactSweepInOrder_row (fun _ h => by cases h) (by kernel_rfl) (fun _ h => by cases h) fnExactSweepInOrder_row_tie rfl ⟨rfl, rfl⟩ seat_mi (by kernel_rfl)
    (fun f fn hf hfn => by
      obtain rfl : f = 11 := Option.some.inj ((show Tryd.prog.funcNamed "loop.example/g01288/laws.FnExactSweepInOrder" = some 11 by kernel_rfl).symm.trans hf) |>.symm
      obtain rfl : fn = Tryd.f11 := (Option.some.inj (Tryd.func11.symm.trans hfn)).symm
      refine ⟨by kernel_rfl, fun j t ht => ?_⟩
      have hall : Tryd.f11.params.toList.all (fun t => !Tryd.prog.wantsStandIn t) = true := by kernel_rfl
      have hm : t ∈ Tryd.f11.params.toList := Array.mem_toList_iff.2 (Array.mem_of_getElem? ht)
      have h := List.all_eq_true.1 hall t hm
      simp only [Bool.not_eq_true'] at h
      exact h)
    (by kernel_rfl)
#print axioms fnExactSweepInOrder_holds
end Go.Proofs.YtdhnneidkdoplaaDoor
