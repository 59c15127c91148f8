/- The law FnExactBalancesOf of this commit: for every input the call returns true, and each argument reads afterwards as it read before. Condition: the table of math/bits is as its initialiser lays it (the card ties it to the program's text). -/
import Derived.Test.YtjbldgefabbgpaaDoorLawBalancesOf
import Derived.Test.YtjbldgefabbgpaaDoorSeat
import Derived.Test.YtjbldgefabbgpaaDoorCards
import Derived.Test.YtjbldgefabbgpaaDoorTie
import Derived.SevenTiedAt
namespace Go.Proofs.YtjbldgefabbgpaaDoor
open Go.ChangeShapes Go.WideShapes Go.ChangeAt Go.RowKit

set_option maxRecDepth 100000
def fnExactBalancesOf_w : Array Value := #[.agg #[.int .i8 0, .int .i8 0, .float .f32 0, .float .f32 0, .float .f32 0, .float .f32 0, .float .f32 0, .float .f32 0, .float .f32 0, .float .f32 0, .float .f32 0, .float .f32 0, .float .f32 0, .float .f32 0, .float .f32 0, .float .f32 0, .float .f32 0, .float .f32 0, .float .f32 0, .float .f32 0, .float .f32 0, .float .f32 0, .float .f32 0, .float .f32 0, .float .f32 0, .float .f32 0, .float .f32 0, .float .f32 0, .float .f32 0, .float .f32 0, .float .f32 0, .float .f32 0, .float .f32 0, .float .f32 0, .float .f32 0, .float .f32 0, .float .f32 0, .float .f32 0, .float .f32 0, .float .f32 0, .float .f32 0, .float .f32 0, .float .f32 0, .float .f32 0, .float .f32 0, .float .f32 0, .float .f32 0, .float .f32 0, .float .f32 0, .float .f32 0, .float .f32 0, .float .f32 0, .float .f32 0, .float .f32 0, .float .f32 0, .float .f32 0, .float .f32 0, .float .f32 0, .float .f32 0, .float .f32 0, .float .f32 0, .float .f32 0, .float .f32 0, .float .f32 0, .float .f32 0, .float .f32 0, .float .f32 0, .float .f32 0, .float .f32 0, .float .f32 0, .float .f32 0, .float .f32 0, .float .f32 0, .float .f32 0, .float .f32 0, .float .f32 0, .float .f32 0, .float .f32 0, .float .f32 0, .float .f32 0, .float .f32 0, .float .f32 0, .float .f32 0, .float .f32 0, .float .f32 0, .float .f32 0, .float .f32 0, .float .f32 0, .float .f32 0, .float .f32 0, .float .f32 0, .float .f32 0, .float .f32 0, .float .f32 0, .float .f32 0, .float .f32 0, .float .f32 0, .float .f32 0, .float .f32 0, .float .f32 0, .float .f32 0, .float .f32 0, .float .f32 0, .float .f32 0, .float .f32 0, .float .f32 0, .float .f32 0, .float .f32 0, .float .f32 0, .float .f32 0, .float .f32 0, .float .f32 0, .float .f32 0, .float .f32 0, .float .f32 0, .float .f32 0, .float .f32 0, .float .f32 0, .float .f32 0, .float .f32 0, .float .f32 0, .float .f32 0, .float .f32 0, .float .f32 0, .float .f32 0, .float .f32 0, .float .f32 0, .float .f32 0, .float .f32 0, .float .f32 0, .float .f32 0, .float .f32 0, .float .f32 0, .float .f32 0, .float .f32 0, .float .f32 0, .float .f32 0, .float .f32 0, .float .f32 0, .float .f32 0, .float .f32 0, .float .f32 0, .float .f32 0, .float .f32 0, .float .f32 0, .float .f32 0, .float .f32 0, .float .f32 0, .float .f32 0, .float .f32 0, .float .f32 0, .float .f32 0, .float .f32 0, .float .f32 0, .float .f32 0, .float .f32 0, .float .f32 0, .float .f32 0, .float .f32 0, .float .f32 0, .float .f32 0, .float .f32 0, .float .f32 0, .float .f32 0, .float .f32 0, .float .f32 0, .float .f32 0, .float .f32 0, .float .f32 0, .float .f32 0, .float .f32 0, .float .f32 0, .float .f32 0, .float .f32 0, .float .f32 0, .float .f32 0, .float .f32 0, .float .f32 0, .float .f32 0, .float .f32 0, .float .f32 0, .float .f32 0, .float .f32 0, .float .f32 0, .float .f32 0, .float .f32 0, .float .f32 0, .float .f32 0, .float .f32 0, .float .f32 0, .float .f32 0, .float .f32 0, .float .f32 0, .float .f32 0, .int .u64 0]]
theorem fnExactBalancesOf_j0 : (Rows.fnExactBalancesOfRow.inPlace == Tryd.prog.inPlace 15) = true := by kernel_rfl
theorem fnExactBalancesOf_j1 : (Rows.fnExactBalancesOfRow.unfollowed == Tryd.prog.unfollowed 15) = true := by kernel_rfl
theorem fnExactBalancesOf_j2 : (Rows.fnExactBalancesOfRow.recurses == Tryd.prog.recurses 15) = true := by kernel_rfl
theorem fnExactBalancesOf_j3 : (Rows.fnExactBalancesOfRow.named == Tryd.prog.varsNamed 15) = true := by kernel_rfl
theorem fnExactBalancesOf_jw : Rows.fnExactBalancesOfRow.wf (OpenSpec.ofChange Rows.fnExactBalancesOfSpec) = true := by kernel_rfl
theorem fnExactBalancesOf_jn : namedTie Tryd.prog Rows.fnExactBalancesOfRow.named Rows.fnExactBalancesOfSpec.vars = true := by kernel_rfl
theorem fnExactBalancesOf_jf : joinedFacts Tryd.prog 15 Tryd.f15 Rows.fnExactBalancesOfSpec Rows.fnExactBalancesOfRow = true := by
  unfold joinedFacts
  simp only [Bool.and_eq_true]
  exact ⟨⟨⟨⟨⟨⟨⟨⟨⟨⟨⟨⟨⟨⟨⟨⟨⟨⟨⟨⟨⟨⟨⟨⟨⟨⟨⟨⟨⟨⟨⟨fnExactBalancesOf_jw, laidOut⟩, (by kernel_rfl)⟩, (by kernel_rfl)⟩, fnExactBalancesOf_jn⟩, (by kernel_rfl)⟩, (by kernel_rfl)⟩, (by kernel_rfl)⟩, (by kernel_rfl)⟩, fnExactBalancesOf_j0⟩, fnExactBalancesOf_j1⟩, fnExactBalancesOf_j2⟩, fnExactBalancesOf_j3⟩, (by kernel_rfl)⟩, (by kernel_rfl)⟩, (by kernel_rfl)⟩, (by kernel_rfl)⟩, (by kernel_rfl)⟩, (by kernel_rfl)⟩, (by kernel_rfl)⟩, (by kernel_rfl)⟩, (by kernel_rfl)⟩, (by kernel_rfl)⟩, (by kernel_rfl)⟩, (by kernel_rfl)⟩, seat_me⟩, seat_lf⟩, seat_mk⟩, (by kernel_rfl)⟩, (by kernel_rfl)⟩, (by kernel_rfl)⟩, (by kernel_rfl)⟩
theorem fnExactBalancesOf_nm : Tryd.pinned.checked.prog.funcNamed Rows.fnExactBalancesOfRow.func = some 15 := by kernel_rfl
theorem fnExactBalancesOf_rd : ∀ t ∈ Tryd.f15.params.toList, Tryd.prog.readableRec t = true ∧ t < Tryd.prog.types.size := by rw [Tryd.params15]; exact (by decide +kernel)
theorem fnExactBalancesOf_ok (os : Os) : Input.okWideB Tryd.checked.prog ((World.doorLaid Tryd.prog 400 os).forCall (fun _ _ => 0) ⟨#[], fnExactBalancesOf_w, []⟩) 15 ⟨#[], fnExactBalancesOf_w, []⟩ = true := by kernel_rfl
theorem fnExactBalancesOf_pb (os : Os) (H : Type) (enc : TypeId × Value → H) : Rows.fnExactBalancesOfSpec.preB enc Tryd.checked.prog Tryd.f15 [] false ((World.doorLaid Tryd.prog 400 os).forCall (fun _ _ => 0) ⟨#[], fnExactBalancesOf_w, []⟩).memory fnExactBalancesOf_w 16 = true := by kernel_rfl
theorem fnExactBalancesOf_sb (os : Os) (H : Type) (enc : TypeId × Value → H) : Rows.fnExactBalancesOfSpec.sizedB enc Tryd.checked.prog Tryd.f15 false ((World.doorLaid Tryd.prog 400 os).forCall (fun _ _ => 0) ⟨#[], fnExactBalancesOf_w, []⟩).memory fnExactBalancesOf_w 16 = true := by kernel_rfl
theorem fnExactBalancesOf_sh (os : Os) : ((World.doorLaid Tryd.prog 400 os).forCall (fun _ _ => 0) ⟨#[], fnExactBalancesOf_w, []⟩).Shaped Tryd.checked.prog := World.shaped_of_B (by kernel_rfl) (by kernel_rfl)
theorem fnExactBalancesOf_row : Rows.FnExactBalancesOfSaid :=
  OpenClaim.holds_of_wide 15 Tryd.f15 rfl rfl rfl rfl rfl rfl rfl ⟨rfl, rfl, rfl, rfl, rfl⟩ rfl rfl rfl rfl rfl fnExactBalancesOf_nm Tryd.func15 fnExactBalancesOf_jf
    (of_decide_eq_true (by kernel_rfl)) (by unfold Func.isWrapper; first | (rw [if_pos (by decide +kernel)]; kernel_rfl) | (rw [if_neg (by decide +kernel)]; exact ⟨rfl, rfl⟩))
    (fun os started H enc _ => liftT 15 Tryd.f15 Rows.fnExactBalancesOfSpec Tryd.func15 rfl rfl
      (fun H ds h => match ds, h with | [d0], _ => rfl)
      fnExactBalancesOf_rd
      fnExactBalancesOf_walk os started H enc (by kernel_rfl)
      (witnessT 15 Tryd.f15 Rows.fnExactBalancesOfSpec fnExactBalancesOf_w os H enc (fnExactBalancesOf_sh os) (fnExactBalancesOf_ok os) (fnExactBalancesOf_pb os H enc) (fnExactBalancesOf_sb os H enc)))

set_option maxRecDepth 100000 in
theorem fnExactBalancesOf_holds : Rows.FnExactBalancesOfCardSaid :=
  Claim7.holds_tied_plain_at .later [] [.data] true Rows.fnExactBalancesOfCard.stood.harness Rows.fnExactBalancesOfCard.stood.looks
    fnExactBalancesOf_row (fun _ h => by cases h) (by kernel_rfl) (fun _ h => by cases h) fnExactBalancesOf_row_tie rfl ⟨rfl, rfl⟩ seat_mi (by kernel_rfl)
    (fun f fn hf hfn => by
      obtain rfl : f = 15 := Option.some.inj ((show Tryd.prog.funcNamed "loop.example/g01288/laws.FnExactBalancesOf" = some 15 by kernel_rfl).symm.trans hf) |>.symm
      obtain rfl : fn = Tryd.f15 := (Option.some.inj (Tryd.func15.symm.trans hfn)).symm
      refine ⟨by kernel_rfl, fun j t ht => ?_⟩
      have hall : Tryd.f15.params.toList.all (fun t => !Tryd.prog.wantsStandIn t) = true := by kernel_rfl
      have hm : t ∈ Tryd.f15.params.toList := Array.mem_toList_iff.2 (Array.mem_of_getElem? ht)
      have h := List.all_eq_true.1 hall t hm
      simp only [Bool.not_eq_true'] at h
      exact h)
    (by kernel_rfl)
#print axioms fnExactBalancesOf_holds
end Go.Proofs.YtjbldgefabbgpaaDoor
