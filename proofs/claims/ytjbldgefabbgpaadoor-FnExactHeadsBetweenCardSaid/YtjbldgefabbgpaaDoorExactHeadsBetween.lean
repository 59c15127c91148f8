/- The law FnExactHeadsBetween of this commit: for every input the call returns true, and each argument reads afterwards as it read before. Condition: the table of math/bits is as its initialiser lays it (the card ties it to the program's text). -/
import Derived.Test.YtjbldgefabbgpaaDoorLawHeadsBetween
import Derived.Test.YtjbldgefabbgpaaDoorSeat
import Derived.Test.YtjbldgefabbgpaaDoorCards
import Derived.Test.YtjbldgefabbgpaaDoorTie
import Derived.SevenTiedAt
namespace Go.Proofs.YtjbldgefabbgpaaDoor
open Go.ChangeShapes Go.WideShapes Go.ChangeAt Go.RowKit

set_option maxRecDepth 100000
def fnExactHeadsBetween_w : Array Value := #[.agg #[.int .i8 0, .int .i8 0, .float .f32 0, .float .f32 0, .float .f32 0, .float .f32 0, .float .f32 0, .float .f32 0, .float .f32 0, .float .f32 0, .float .f32 0, .float .f32 0, .float .f32 0, .float .f32 0, .float .f32 0, .float .f32 0, .float .f32 0, .float .f32 0, .float .f32 0, .float .f32 0, .float .f32 0, .float .f32 0, .float .f32 0, .float .f32 0, .float .f32 0, .float .f32 0, .float .f32 0, .float .f32 0, .float .f32 0, .float .f32 0, .float .f32 0, .float .f32 0, .float .f32 0, .float .f32 0, .float .f32 0, .float .f32 0, .float .f32 0, .float .f32 0, .float .f32 0, .float .f32 0, .float .f32 0, .float .f32 0, .float .f32 0, .float .f32 0, .float .f32 0, .float .f32 0, .float .f32 0, .float .f32 0, .float .f32 0, .float .f32 0, .float .f32 0, .float .f32 0, .float .f32 0, .float .f32 0, .float .f32 0, .float .f32 0, .float .f32 0, .float .f32 0, .float .f32 0, .float .f32 0, .float .f32 0, .float .f32 0, .float .f32 0, .float .f32 0, .float .f32 0, .float .f32 0, .float .f32 0, .float .f32 0, .float .f32 0, .float .f32 0, .float .f32 0, .float .f32 0, .float .f32 0, .float .f32 0, .float .f32 0, .float .f32 0, .float .f32 0, .float .f32 0, .float .f32 0, .float .f32 0, .float .f32 0, .float .f32 0, .float .f32 0, .float .f32 0, .float .f32 0, .float .f32 0, .float .f32 0, .float .f32 0, .float .f32 0, .float .f32 0, .float .f32 0, .float .f32 0, .float .f32 0, .float .f32 0, .float .f32 0, .float .f32 0, .float .f32 0, .float .f32 0, .float .f32 0, .float .f32 0, .float .f32 0, .float .f32 0, .float .f32 0, .float .f32 0, .float .f32 0, .float .f32 0, .float .f32 0, .float .f32 0, .float .f32 0, .float .f32 0, .float .f32 0, .float .f32 0, .float .f32 0, .float .f32 0, .float .f32 0, .float .f32 0, .float .f32 0, .float .f32 0, .float .f32 0, .float .f32 0, .float .f32 0, .float .f32 0, .float .f32 0, .float .f32 0, .float .f32 0, .float .f32 0, .float .f32 0, .float .f32 0, .float .f32 0, .float .f32 0, .float .f32 0, .float .f32 0, .float .f32 0, .float .f32 0, .float .f32 0, .float .f32 0, .float .f32 0, .float .f32 0, .float .f32 0, .float .f32 0, .float .f32 0, .float .f32 0, .float .f32 0, .float .f32 0, .float .f32 0, .float .f32 0, .float .f32 0, .float .f32 0, .float .f32 0, .float .f32 0, .float .f32 0, .float .f32 0, .float .f32 0, .float .f32 0, .float .f32 0, .float .f32 0, .float .f32 0, .float .f32 0, .float .f32 0, .float .f32 0, .float .f32 0, .float .f32 0, .float .f32 0, .float .f32 0, .float .f32 0, .float .f32 0, .float .f32 0, .float .f32 0, .float .f32 0, .float .f32 0, .float .f32 0, .float .f32 0, .float .f32 0, .float .f32 0, .float .f32 0, .float .f32 0, .float .f32 0, .float .f32 0, .float .f32 0, .float .f32 0, .float .f32 0, .float .f32 0, .float .f32 0, .float .f32 0, .float .f32 0, .float .f32 0, .float .f32 0, .float .f32 0, .float .f32 0, .float .f32 0, .float .f32 0, .float .f32 0, .float .f32 0, .float .f32 0, .int .u64 0]]
theorem fnExactHeadsBetween_j0 : (Rows.fnExactHeadsBetweenRow.inPlace == Tryd.prog.inPlace 6) = true := by kernel_rfl
theorem fnExactHeadsBetween_j1 : (Rows.fnExactHeadsBetweenRow.unfollowed == Tryd.prog.unfollowed 6) = true := by kernel_rfl
theorem fnExactHeadsBetween_j2 : (Rows.fnExactHeadsBetweenRow.recurses == Tryd.prog.recurses 6) = true := by kernel_rfl
theorem fnExactHeadsBetween_j3 : (Rows.fnExactHeadsBetweenRow.named == Tryd.prog.varsNamed 6) = true := by kernel_rfl
theorem fnExactHeadsBetween_jw : Rows.fnExactHeadsBetweenRow.wf (OpenSpec.ofChange Rows.fnExactHeadsBetweenSpec) = true := by kernel_rfl
theorem fnExactHeadsBetween_jn : namedTie Tryd.prog Rows.fnExactHeadsBetweenRow.named Rows.fnExactHeadsBetweenSpec.vars = true := by kernel_rfl
theorem fnExactHeadsBetween_jf : joinedFacts Tryd.prog 6 Tryd.f6 Rows.fnExactHeadsBetweenSpec Rows.fnExactHeadsBetweenRow = true := by
  unfold joinedFacts
  simp only [Bool.and_eq_true]
  exact ⟨⟨⟨⟨⟨⟨⟨⟨⟨⟨⟨⟨⟨⟨⟨⟨⟨⟨⟨⟨⟨⟨⟨⟨⟨⟨⟨⟨⟨⟨⟨fnExactHeadsBetween_jw, laidOut⟩, (by kernel_rfl)⟩, (by kernel_rfl)⟩, fnExactHeadsBetween_jn⟩, (by kernel_rfl)⟩, (by kernel_rfl)⟩, (by kernel_rfl)⟩, (by kernel_rfl)⟩, fnExactHeadsBetween_j0⟩, fnExactHeadsBetween_j1⟩, fnExactHeadsBetween_j2⟩, fnExactHeadsBetween_j3⟩, (by kernel_rfl)⟩, (by kernel_rfl)⟩, (by kernel_rfl)⟩, (by kernel_rfl)⟩, (by kernel_rfl)⟩, (by kernel_rfl)⟩, (by kernel_rfl)⟩, (by kernel_rfl)⟩, (by kernel_rfl)⟩, (by kernel_rfl)⟩, (by kernel_rfl)⟩, (by kernel_rfl)⟩, seat_me⟩, seat_lf⟩, seat_mk⟩, (by kernel_rfl)⟩, (by kernel_rfl)⟩, (by kernel_rfl)⟩, (by kernel_rfl)⟩
theorem fnExactHeadsBetween_nm : Tryd.pinned.checked.prog.funcNamed Rows.fnExactHeadsBetweenRow.func = some 6 := by kernel_rfl
theorem fnExactHeadsBetween_rd : ∀ t ∈ Tryd.f6.params.toList, Tryd.prog.readableRec t = true ∧ t < Tryd.prog.types.size := by rw [Tryd.params6]; exact (by decide +kernel)
theorem fnExactHeadsBetween_ok (os : Os) : Input.okWideB Tryd.checked.prog ((World.doorLaid Tryd.prog 400 os).forCall (fun _ _ => 0) ⟨#[], fnExactHeadsBetween_w, []⟩) 6 ⟨#[], fnExactHeadsBetween_w, []⟩ = true := by kernel_rfl
theorem fnExactHeadsBetween_pb (os : Os) (H : Type) (enc : TypeId × Value → H) : Rows.fnExactHeadsBetweenSpec.preB enc Tryd.checked.prog Tryd.f6 [] false ((World.doorLaid Tryd.prog 400 os).forCall (fun _ _ => 0) ⟨#[], fnExactHeadsBetween_w, []⟩).memory fnExactHeadsBetween_w 16 = true := by kernel_rfl
theorem fnExactHeadsBetween_sb (os : Os) (H : Type) (enc : TypeId × Value → H) : Rows.fnExactHeadsBetweenSpec.sizedB enc Tryd.checked.prog Tryd.f6 false ((World.doorLaid Tryd.prog 400 os).forCall (fun _ _ => 0) ⟨#[], fnExactHeadsBetween_w, []⟩).memory fnExactHeadsBetween_w 16 = true := by kernel_rfl
theorem fnExactHeadsBetween_sh (os : Os) : ((World.doorLaid Tryd.prog 400 os).forCall (fun _ _ => 0) ⟨#[], fnExactHeadsBetween_w, []⟩).Shaped Tryd.checked.prog := World.shaped_of_B (by kernel_rfl) (by kernel_rfl)
theorem fnExactHeadsBetween_row : Rows.FnExactHeadsBetweenSaid :=
  OpenClaim.holds_of_wide 6 Tryd.f6 rfl rfl rfl rfl rfl rfl rfl ⟨rfl, rfl, rfl, rfl, rfl⟩ rfl rfl rfl rfl rfl fnExactHeadsBetween_nm Tryd.func6 fnExactHeadsBetween_jf
    (of_decide_eq_true (by kernel_rfl)) (by unfold Func.isWrapper; first | (rw [if_pos (by decide +kernel)]; kernel_rfl) | (rw [if_neg (by decide +kernel)]; exact ⟨rfl, rfl⟩))
    (fun os started H enc _ => liftT 6 Tryd.f6 Rows.fnExactHeadsBetweenSpec Tryd.func6 rfl rfl
      (fun H ds h => match ds, h with | [d0], _ => rfl)
      fnExactHeadsBetween_rd
      fnExactHeadsBetween_walk os started H enc (by kernel_rfl)
      (witnessT 6 Tryd.f6 Rows.fnExactHeadsBetweenSpec fnExactHeadsBetween_w os H enc (fnExactHeadsBetween_sh os) (fnExactHeadsBetween_ok os) (fnExactHeadsBetween_pb os H enc) (fnExactHeadsBetween_sb os H enc)))

set_option maxRecDepth 100000 in
theorem fnExactHeadsBetween_holds : Rows.FnExactHeadsBetweenCardSaid :=
  Claim7.holds_tied_plain_at .later [] [.data] true Rows.fnExactHeadsBetweenCard.stood.harness Rows.fnExactHeadsBetweenCard.stood.looks
    fnExactHeadsBetween_row (fun _ h => by cases h) (by kernel_rfl) (fun _ h => by cases h) fnExactHeadsBetween_row_tie rfl ⟨rfl, rfl⟩ seat_mi (by kernel_rfl)
    (fun f fn hf hfn => by
      obtain rfl : f = 6 := Option.some.inj ((show Tryd.prog.funcNamed "loop.example/g01288/laws.FnExactHeadsBetween" = some 6 by kernel_rfl).symm.trans hf) |>.symm
      obtain rfl : fn = Tryd.f6 := (Option.some.inj (Tryd.func6.symm.trans hfn)).symm
      refine ⟨by kernel_rfl, fun j t ht => ?_⟩
      have hall : Tryd.f6.params.toList.all (fun t => !Tryd.prog.wantsStandIn t) = true := by kernel_rfl
      have hm : t ∈ Tryd.f6.params.toList := Array.mem_toList_iff.2 (Array.mem_of_getElem? ht)
      have h := List.all_eq_true.1 hall t hm
      simp only [Bool.not_eq_true'] at h
      exact h)
    (by kernel_rfl)
#print axioms fnExactHeadsBetween_holds
end Go.Proofs.YtjbldgefabbgpaaDoor
