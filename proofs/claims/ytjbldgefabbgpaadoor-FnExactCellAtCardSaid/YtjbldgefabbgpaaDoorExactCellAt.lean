/- The law FnExactCellAt of this commit: for every input the call returns true, and each argument reads afterwards as it read before. Condition: the table of math/bits is as its initialiser lays it (the card ties it to the program's text). -/
import Derived.Test.YtjbldgefabbgpaaDoorLawCellAt
import Derived.Test.YtjbldgefabbgpaaDoorSeat
import Derived.Test.YtjbldgefabbgpaaDoorCards
import Derived.Test.YtjbldgefabbgpaaDoorTie
import Derived.SevenTiedAt
namespace Go.Proofs.YtjbldgefabbgpaaDoor
open Go.ChangeShapes Go.WideShapes Go.ChangeAt Go.RowKit

set_option maxRecDepth 100000
def fnExactCellAt_w : Array Value := #[.agg #[.int .i8 0, .int .i8 0, .float .f32 0, .float .f32 0, .float .f32 0, .float .f32 0, .float .f32 0, .float .f32 0, .float .f32 0, .float .f32 0, .float .f32 0, .float .f32 0, .float .f32 0, .float .f32 0, .float .f32 0, .float .f32 0, .float .f32 0, .float .f32 0, .float .f32 0, .float .f32 0, .float .f32 0, .float .f32 0, .float .f32 0, .float .f32 0, .float .f32 0, .float .f32 0, .float .f32 0, .float .f32 0, .float .f32 0, .float .f32 0, .float .f32 0, .float .f32 0, .float .f32 0, .float .f32 0, .float .f32 0, .float .f32 0, .float .f32 0, .float .f32 0, .float .f32 0, .float .f32 0, .float .f32 0, .float .f32 0, .float .f32 0, .float .f32 0, .float .f32 0, .float .f32 0, .float .f32 0, .float .f32 0, .float .f32 0, .float .f32 0, .float .f32 0, .float .f32 0, .float .f32 0, .float .f32 0, .float .f32 0, .float .f32 0, .float .f32 0, .float .f32 0, .float .f32 0, .float .f32 0, .float .f32 0, .float .f32 0, .float .f32 0, .float .f32 0, .float .f32 0, .float .f32 0, .float .f32 0, .float .f32 0, .float .f32 0, .float .f32 0, .float .f32 0, .float .f32 0, .float .f32 0, .float .f32 0, .float .f32 0, .float .f32 0, .float .f32 0, .float .f32 0, .float .f32 0, .float .f32 0, .float .f32 0, .float .f32 0, .float .f32 0, .float .f32 0, .float .f32 0, .float .f32 0, .float .f32 0, .float .f32 0, .float .f32 0, .float .f32 0, .float .f32 0, .float .f32 0, .float .f32 0, .float .f32 0, .float .f32 0, .float .f32 0, .float .f32 0, .float .f32 0, .float .f32 0, .float .f32 0, .float .f32 0, .float .f32 0, .float .f32 0, .float .f32 0, .float .f32 0, .float .f32 0, .float .f32 0, .float .f32 0, .float .f32 0, .float .f32 0, .float .f32 0, .float .f32 0, .float .f32 0, .float .f32 0, .float .f32 0, .float .f32 0, .float .f32 0, .float .f32 0, .float .f32 0, .float .f32 0, .float .f32 0, .float .f32 0, .float .f32 0, .float .f32 0, .float .f32 0, .float .f32 0, .float .f32 0, .float .f32 0, .float .f32 0, .float .f32 0, .float .f32 0, .float .f32 0, .float .f32 0, .float .f32 0, .float .f32 0, .float .f32 0, .float .f32 0, .float .f32 0, .float .f32 0, .float .f32 0, .float .f32 0, .float .f32 0, .float .f32 0, .float .f32 0, .float .f32 0, .float .f32 0, .float .f32 0, .float .f32 0, .float .f32 0, .float .f32 0, .float .f32 0, .float .f32 0, .float .f32 0, .float .f32 0, .float .f32 0, .float .f32 0, .float .f32 0, .float .f32 0, .float .f32 0, .float .f32 0, .float .f32 0, .float .f32 0, .float .f32 0, .float .f32 0, .float .f32 0, .float .f32 0, .float .f32 0, .float .f32 0, .float .f32 0, .float .f32 0, .float .f32 0, .float .f32 0, .float .f32 0, .float .f32 0, .float .f32 0, .float .f32 0, .float .f32 0, .float .f32 0, .float .f32 0, .float .f32 0, .float .f32 0, .float .f32 0, .float .f32 0, .float .f32 0, .float .f32 0, .float .f32 0, .float .f32 0, .float .f32 0, .float .f32 0, .float .f32 0, .float .f32 0, .float .f32 0, .float .f32 0, .float .f32 0, .int .u64 0], .int .i64 0, .int .i64 0]
theorem fnExactCellAt_j0 : (Rows.fnExactCellAtRow.inPlace == Tryd.prog.inPlace 3) = true := by kernel_rfl
theorem fnExactCellAt_j1 : (Rows.fnExactCellAtRow.unfollowed == Tryd.prog.unfollowed 3) = true := by kernel_rfl
theorem fnExactCellAt_j2 : (Rows.fnExactCellAtRow.recurses == Tryd.prog.recurses 3) = true := by kernel_rfl
theorem fnExactCellAt_j3 : (Rows.fnExactCellAtRow.named == Tryd.prog.varsNamed 3) = true := by kernel_rfl
theorem fnExactCellAt_jw : Rows.fnExactCellAtRow.wf (OpenSpec.ofChange Rows.fnExactCellAtSpec) = true := by kernel_rfl
theorem fnExactCellAt_jn : namedTie Tryd.prog Rows.fnExactCellAtRow.named Rows.fnExactCellAtSpec.vars = true := by kernel_rfl
theorem fnExactCellAt_jf : joinedFacts Tryd.prog 3 Tryd.f3 Rows.fnExactCellAtSpec Rows.fnExactCellAtRow = true := by
  unfold joinedFacts
  simp only [Bool.and_eq_true]
  exact ⟨⟨⟨⟨⟨⟨⟨⟨⟨⟨⟨⟨⟨⟨⟨⟨⟨⟨⟨⟨⟨⟨⟨⟨⟨⟨⟨⟨⟨⟨⟨fnExactCellAt_jw, laidOut⟩, (by kernel_rfl)⟩, (by kernel_rfl)⟩, fnExactCellAt_jn⟩, (by kernel_rfl)⟩, (by kernel_rfl)⟩, (by kernel_rfl)⟩, (by kernel_rfl)⟩, fnExactCellAt_j0⟩, fnExactCellAt_j1⟩, fnExactCellAt_j2⟩, fnExactCellAt_j3⟩, (by kernel_rfl)⟩, (by kernel_rfl)⟩, (by kernel_rfl)⟩, (by kernel_rfl)⟩, (by kernel_rfl)⟩, (by kernel_rfl)⟩, (by kernel_rfl)⟩, (by kernel_rfl)⟩, (by kernel_rfl)⟩, (by kernel_rfl)⟩, (by kernel_rfl)⟩, (by kernel_rfl)⟩, seat_me⟩, seat_lf⟩, seat_mk⟩, (by kernel_rfl)⟩, (by kernel_rfl)⟩, (by kernel_rfl)⟩, (by kernel_rfl)⟩
theorem fnExactCellAt_nm : Tryd.pinned.checked.prog.funcNamed Rows.fnExactCellAtRow.func = some 3 := by kernel_rfl
theorem fnExactCellAt_rd : ∀ t ∈ Tryd.f3.params.toList, Tryd.prog.readableRec t = true ∧ t < Tryd.prog.types.size := by rw [Tryd.params3]; exact (by decide +kernel)
theorem fnExactCellAt_ok (os : Os) : Input.okWideB Tryd.checked.prog ((World.doorLaid Tryd.prog 400 os).forCall (fun _ _ => 0) ⟨#[], fnExactCellAt_w, []⟩) 3 ⟨#[], fnExactCellAt_w, []⟩ = true := by kernel_rfl
theorem fnExactCellAt_pb (os : Os) (H : Type) (enc : TypeId × Value → H) : Rows.fnExactCellAtSpec.preB enc Tryd.checked.prog Tryd.f3 [] false ((World.doorLaid Tryd.prog 400 os).forCall (fun _ _ => 0) ⟨#[], fnExactCellAt_w, []⟩).memory fnExactCellAt_w 16 = true := by kernel_rfl
theorem fnExactCellAt_sb (os : Os) (H : Type) (enc : TypeId × Value → H) : Rows.fnExactCellAtSpec.sizedB enc Tryd.checked.prog Tryd.f3 false ((World.doorLaid Tryd.prog 400 os).forCall (fun _ _ => 0) ⟨#[], fnExactCellAt_w, []⟩).memory fnExactCellAt_w 16 = true := by kernel_rfl
theorem fnExactCellAt_sh (os : Os) : ((World.doorLaid Tryd.prog 400 os).forCall (fun _ _ => 0) ⟨#[], fnExactCellAt_w, []⟩).Shaped Tryd.checked.prog := World.shaped_of_B (by kernel_rfl) (by kernel_rfl)
theorem fnExactCellAt_row : Rows.FnExactCellAtSaid :=
  OpenClaim.holds_of_wide 3 Tryd.f3 rfl rfl rfl rfl rfl rfl rfl ⟨rfl, rfl, rfl, rfl, rfl⟩ rfl rfl rfl rfl rfl fnExactCellAt_nm Tryd.func3 fnExactCellAt_jf
    (of_decide_eq_true (by kernel_rfl)) (by unfold Func.isWrapper; first | (rw [if_pos (by decide +kernel)]; kernel_rfl) | (rw [if_neg (by decide +kernel)]; exact ⟨rfl, rfl⟩))
    (fun os started H enc _ => liftT 3 Tryd.f3 Rows.fnExactCellAtSpec Tryd.func3 rfl rfl
      (fun H ds h => match ds, h with | [d0, d1, d2], _ => rfl)
      fnExactCellAt_rd
      fnExactCellAt_walk os started H enc (by kernel_rfl)
      (witnessT 3 Tryd.f3 Rows.fnExactCellAtSpec fnExactCellAt_w os H enc (fnExactCellAt_sh os) (fnExactCellAt_ok os) (fnExactCellAt_pb os H enc) (fnExactCellAt_sb os H enc)))

set_option maxRecDepth 100000 in
theorem fnExactCellAt_holds : Rows.FnExactCellAtCardSaid :=
  Claim7.holds_tied_plain_at .later [] [.data] true Rows.fnExactCellAtCard.stood.harness Rows.fnExactCellAtCard.stood.looks
    fnExactCellAt_row (fun _ h => by cases h) (by kernel_rfl) (fun _ h => by cases h) fnExactCellAt_row_tie rfl ⟨rfl, rfl⟩ seat_mi (by kernel_rfl)
    (fun f fn hf hfn => by
      obtain rfl : f = 3 := Option.some.inj ((show Tryd.prog.funcNamed "loop.example/g01288/laws.FnExactCellAt" = some 3 by kernel_rfl).symm.trans hf) |>.symm
      obtain rfl : fn = Tryd.f3 := (Option.some.inj (Tryd.func3.symm.trans hfn)).symm
      refine ⟨by kernel_rfl, fun j t ht => ?_⟩
      have hall : Tryd.f3.params.toList.all (fun t => !Tryd.prog.wantsStandIn t) = true := by kernel_rfl
      have hm : t ∈ Tryd.f3.params.toList := Array.mem_toList_iff.2 (Array.mem_of_getElem? ht)
      have h := List.all_eq_true.1 hall t hm
      simp only [Bool.not_eq_true'] at h
      exact h)
    (by kernel_rfl)
#print axioms fnExactCellAt_holds
end Go.Proofs.YtjbldgefabbgpaaDoor
