/- The law FnExactBalanceAt of this commit: for every input the call returns true, and each argument reads afterwards as it read before. Condition: the table of math/bits is as its initialiser lays it (the card ties it to the program's text). -/
import Derived.Test.YtjbldgefabbgpaaDoorLawBalanceAt
import Derived.Test.YtjbldgefabbgpaaDoorSeat
import Derived.Test.YtjbldgefabbgpaaDoorCards
import Derived.Test.YtjbldgefabbgpaaDoorTie
import Derived.SevenTiedAt
namespace Go.Proofs.YtjbldgefabbgpaaDoor
open Go.ChangeShapes Go.WideShapes Go.ChangeAt Go.RowKit

set_option maxRecDepth 100000
def fnExactBalanceAt_w : Array Value := #[.agg #[.int .i8 0, .int .i8 0, .float .f32 0, .float .f32 0, .float .f32 0, .float .f32 0, .float .f32 0, .float .f32 0, .float .f32 0, .float .f32 0, .float .f32 0, .float .f32 0, .float .f32 0, .float .f32 0, .float .f32 0, .float .f32 0, .float .f32 0, .float .f32 0, .float .f32 0, .float .f32 0, .float .f32 0, .float .f32 0, .float .f32 0, .float .f32 0, .float .f32 0, .float .f32 0, .float .f32 0, .float .f32 0, .float .f32 0, .float .f32 0, .float .f32 0, .float .f32 0, .float .f32 0, .float .f32 0, .float .f32 0, .float .f32 0, .float .f32 0, .float .f32 0, .float .f32 0, .float .f32 0, .float .f32 0, .float .f32 0, .float .f32 0, .float .f32 0, .float .f32 0, .float .f32 0, .float .f32 0, .float .f32 0, .float .f32 0, .float .f32 0, .float .f32 0, .float .f32 0, .float .f32 0, .float .f32 0, .float .f32 0, .float .f32 0, .float .f32 0, .float .f32 0, .float .f32 0, .float .f32 0, .float .f32 0, .float .f32 0, .float .f32 0, .float .f32 0, .float .f32 0, .float .f32 0, .float .f32 0, .float .f32 0, .float .f32 0, .float .f32 0, .float .f32 0, .float .f32 0, .float .f32 0, .float .f32 0, .float .f32 0, .float .f32 0, .float .f32 0, .float .f32 0, .float .f32 0, .float .f32 0, .float .f32 0, .float .f32 0, .float .f32 0, .float .f32 0, .float .f32 0, .float .f32 0, .float .f32 0, .float .f32 0, .float .f32 0, .float .f32 0, .float .f32 0, .float .f32 0, .float .f32 0, .float .f32 0, .float .f32 0, .float .f32 0, .float .f32 0, .float .f32 0, .float .f32 0, .float .f32 0, .float .f32 0, .float .f32 0, .float .f32 0, .float .f32 0, .float .f32 0, .float .f32 0, .float .f32 0, .float .f32 0, .float .f32 0, .float .f32 0, .float .f32 0, .float .f32 0, .float .f32 0, .float .f32 0, .float .f32 0, .float .f32 0, .float .f32 0, .float .f32 0, .float .f32 0, .float .f32 0, .float .f32 0, .float .f32 0, .float .f32 0, .float .f32 0, .float .f32 0, .float .f32 0, .float .f32 0, .float .f32 0, .float .f32 0, .float .f32 0, .float .f32 0, .float .f32 0, .float .f32 0, .float .f32 0, .float .f32 0, .float .f32 0, .float .f32 0, .float .f32 0, .float .f32 0, .float .f32 0, .float .f32 0, .float .f32 0, .float .f32 0, .float .f32 0, .float .f32 0, .float .f32 0, .float .f32 0, .float .f32 0, .float .f32 0, .float .f32 0, .float .f32 0, .float .f32 0, .float .f32 0, .float .f32 0, .float .f32 0, .float .f32 0, .float .f32 0, .float .f32 0, .float .f32 0, .float .f32 0, .float .f32 0, .float .f32 0, .float .f32 0, .float .f32 0, .float .f32 0, .float .f32 0, .float .f32 0, .float .f32 0, .float .f32 0, .float .f32 0, .float .f32 0, .float .f32 0, .float .f32 0, .float .f32 0, .float .f32 0, .float .f32 0, .float .f32 0, .float .f32 0, .float .f32 0, .float .f32 0, .float .f32 0, .float .f32 0, .float .f32 0, .float .f32 0, .float .f32 0, .float .f32 0, .float .f32 0, .float .f32 0, .float .f32 0, .float .f32 0, .float .f32 0, .float .f32 0, .float .f32 0, .float .f32 0, .int .u64 0], .int .i64 0]
theorem fnExactBalanceAt_j0 : (Rows.fnExactBalanceAtRow.inPlace == Tryd.prog.inPlace 14) = true := by kernel_rfl
theorem fnExactBalanceAt_j1 : (Rows.fnExactBalanceAtRow.unfollowed == Tryd.prog.unfollowed 14) = true := by kernel_rfl
theorem fnExactBalanceAt_j2 : (Rows.fnExactBalanceAtRow.recurses == Tryd.prog.recurses 14) = true := by kernel_rfl
theorem fnExactBalanceAt_j3 : (Rows.fnExactBalanceAtRow.named == Tryd.prog.varsNamed 14) = true := by kernel_rfl
theorem fnExactBalanceAt_jw : Rows.fnExactBalanceAtRow.wf (OpenSpec.ofChange Rows.fnExactBalanceAtSpec) = true := by kernel_rfl
theorem fnExactBalanceAt_jn : namedTie Tryd.prog Rows.fnExactBalanceAtRow.named Rows.fnExactBalanceAtSpec.vars = true := by kernel_rfl
theorem fnExactBalanceAt_jf : joinedFacts Tryd.prog 14 Tryd.f14 Rows.fnExactBalanceAtSpec Rows.fnExactBalanceAtRow = true := by
  unfold joinedFacts
  simp only [Bool.and_eq_true]
  exact ⟨⟨⟨⟨⟨⟨⟨⟨⟨⟨⟨⟨⟨⟨⟨⟨⟨⟨⟨⟨⟨⟨⟨⟨⟨⟨⟨⟨⟨⟨⟨fnExactBalanceAt_jw, laidOut⟩, (by kernel_rfl)⟩, (by kernel_rfl)⟩, fnExactBalanceAt_jn⟩, (by kernel_rfl)⟩, (by kernel_rfl)⟩, (by kernel_rfl)⟩, (by kernel_rfl)⟩, fnExactBalanceAt_j0⟩, fnExactBalanceAt_j1⟩, fnExactBalanceAt_j2⟩, fnExactBalanceAt_j3⟩, (by kernel_rfl)⟩, (by kernel_rfl)⟩, (by kernel_rfl)⟩, (by kernel_rfl)⟩, (by kernel_rfl)⟩, (by kernel_rfl)⟩, (by kernel_rfl)⟩, (by kernel_rfl)⟩, (by kernel_rfl)⟩, (by kernel_rfl)⟩, (by kernel_rfl)⟩, (by kernel_rfl)⟩, seat_me⟩, seat_lf⟩, seat_mk⟩, (by kernel_rfl)⟩, (by kernel_rfl)⟩, (by kernel_rfl)⟩, (by kernel_rfl)⟩
theorem fnExactBalanceAt_nm : Tryd.pinned.checked.prog.funcNamed Rows.fnExactBalanceAtRow.func = some 14 := by kernel_rfl
theorem fnExactBalanceAt_rd : ∀ t ∈ Tryd.f14.params.toList, Tryd.prog.readableRec t = true ∧ t < Tryd.prog.types.size := by rw [Tryd.params14]; exact (by decide +kernel)
theorem fnExactBalanceAt_ok (os : Os) : Input.okWideB Tryd.checked.prog ((World.doorLaid Tryd.prog 400 os).forCall (fun _ _ => 0) ⟨#[], fnExactBalanceAt_w, []⟩) 14 ⟨#[], fnExactBalanceAt_w, []⟩ = true := by kernel_rfl
theorem fnExactBalanceAt_pb (os : Os) (H : Type) (enc : TypeId × Value → H) : Rows.fnExactBalanceAtSpec.preB enc Tryd.checked.prog Tryd.f14 [] false ((World.doorLaid Tryd.prog 400 os).forCall (fun _ _ => 0) ⟨#[], fnExactBalanceAt_w, []⟩).memory fnExactBalanceAt_w 16 = true := by kernel_rfl
theorem fnExactBalanceAt_sb (os : Os) (H : Type) (enc : TypeId × Value → H) : Rows.fnExactBalanceAtSpec.sizedB enc Tryd.checked.prog Tryd.f14 false ((World.doorLaid Tryd.prog 400 os).forCall (fun _ _ => 0) ⟨#[], fnExactBalanceAt_w, []⟩).memory fnExactBalanceAt_w 16 = true := by kernel_rfl
theorem fnExactBalanceAt_sh (os : Os) : ((World.doorLaid Tryd.prog 400 os).forCall (fun _ _ => 0) ⟨#[], fnExactBalanceAt_w, []⟩).Shaped Tryd.checked.prog := World.shaped_of_B (by kernel_rfl) (by kernel_rfl)
theorem fnExactBalanceAt_row : Rows.FnExactBalanceAtSaid :=
  OpenClaim.holds_of_wide 14 Tryd.f14 rfl rfl rfl rfl rfl rfl rfl ⟨rfl, rfl, rfl, rfl, rfl⟩ rfl rfl rfl rfl rfl fnExactBalanceAt_nm Tryd.func14 fnExactBalanceAt_jf
    (of_decide_eq_true (by kernel_rfl)) (by unfold Func.isWrapper; first | (rw [if_pos (by decide +kernel)]; kernel_rfl) | (rw [if_neg (by decide +kernel)]; exact ⟨rfl, rfl⟩))
    (fun os started H enc _ => liftT 14 Tryd.f14 Rows.fnExactBalanceAtSpec Tryd.func14 rfl rfl
      (fun H ds h => match ds, h with | [d0, d1], _ => rfl)
      fnExactBalanceAt_rd
      fnExactBalanceAt_walk os started H enc (by kernel_rfl)
      (witnessT 14 Tryd.f14 Rows.fnExactBalanceAtSpec fnExactBalanceAt_w os H enc (fnExactBalanceAt_sh os) (fnExactBalanceAt_ok os) (fnExactBalanceAt_pb os H enc) (fnExactBalanceAt_sb os H enc)))

set_option maxRecDepth 100000 in
theorem fnExactBalanceAt_holds : Rows.FnExactBalanceAtCardSaid :=
  Claim7.holds_tied_plain_at .later [] [.data] true Rows.fnExactBalanceAtCard.stood.harness Rows.fnExactBalanceAtCard.stood.looks
    fnExactBalanceAt_row (fun _ h => by cases h) (by kernel_rfl) (fun _ h => by cases h) fnExactBalanceAt_row_tie rfl ⟨rfl, rfl⟩ seat_mi (by kernel_rfl)
    (fun f fn hf hfn => by
      obtain rfl : f = 14 := Option.some.inj ((show Tryd.prog.funcNamed "loop.example/g01288/laws.FnExactBalanceAt" = some 14 by kernel_rfl).symm.trans hf) |>.symm
      obtain rfl : fn = Tryd.f14 := (Option.some.inj (Tryd.func14.symm.trans hfn)).symm
      refine ⟨by kernel_rfl, fun j t ht => ?_⟩
      have hall : Tryd.f14.params.toList.all (fun t => !Tryd.prog.wantsStandIn t) = true := by kernel_rfl
      have hm : t ∈ Tryd.f14.params.toList := Array.mem_toList_iff.2 (Array.mem_of_getElem? ht)
      have h := List.all_eq_true.1 hall t hm
      simp only [Bool.not_eq_true'] at h
      exact h)
    (by kernel_rfl)
#print axioms fnExactBalanceAt_holds
end Go.Proofs.YtjbldgefabbgpaaDoor
