/- The law FnExactValidPermits of this commit: for every input the call returns true, and each argument reads afterwards as it read before. Condition: the table of math/bits is as its initialiser lays it (the card ties it to the program's text). -/
import Derived.Test.YthncidjgpbjdbaaDoorLawVP
import Derived.Test.YthncidjgpbjdbaaDoorLiftTS
import Derived.Test.YthncidjgpbjdbaaDoorSeat
import Derived.Test.YthncidjgpbjdbaaDoorCards
import Derived.Test.YthncidjgpbjdbaaDoorTie
import Derived.SevenTiedAt
namespace Go.Proofs.YthncidjgpbjdbaaDoor
open Go Go.ChangeShapes Go.WideShapes Go.ChangeAt Go.RowKit Go.Deep
set_option linter.unusedSimpArgs false
set_option linter.unusedVariables false
set_option maxRecDepth 100000
def fnExactValidPermits_w : Array Value := #[.agg #[.int .i8 0, .int .i8 0, .float .f32 0, .float .f32 0, .float .f32 0, .float .f32 0, .float .f32 0, .float .f32 0, .float .f32 0, .float .f32 0, .float .f32 0, .float .f32 0, .float .f32 0, .float .f32 0, .float .f32 0, .float .f32 0, .float .f32 0, .float .f32 0, .float .f32 0, .float .f32 0, .float .f32 0, .float .f32 0, .float .f32 0, .float .f32 0, .float .f32 0, .float .f32 0, .float .f32 0, .float .f32 0, .float .f32 0, .float .f32 0, .float .f32 0, .float .f32 0, .float .f32 0, .float .f32 0, .float .f32 0, .float .f32 0, .float .f32 0, .float .f32 0, .float .f32 0, .float .f32 0, .float .f32 0, .float .f32 0, .float .f32 0, .float .f32 0, .float .f32 0, .float .f32 0, .float .f32 0, .float .f32 0, .float .f32 0, .float .f32 0, .float .f32 0, .float .f32 0, .float .f32 0, .float .f32 0, .float .f32 0, .float .f32 0, .float .f32 0, .float .f32 0, .float .f32 0, .float .f32 0, .float .f32 0, .float .f32 0, .float .f32 0, .float .f32 0, .float .f32 0, .float .f32 0, .float .f32 0, .float .f32 0, .float .f32 0, .float .f32 0, .float .f32 0, .float .f32 0, .float .f32 0, .float .f32 0, .float .f32 0, .float .f32 0, .float .f32 0, .float .f32 0, .float .f32 0, .float .f32 0, .float .f32 0, .float .f32 0, .float .f32 0, .float .f32 0, .float .f32 0, .float .f32 0, .float .f32 0, .float .f32 0, .float .f32 0, .float .f32 0, .float .f32 0, .float .f32 0, .float .f32 0, .float .f32 0, .float .f32 0, .float .f32 0, .float .f32 0, .float .f32 0, .float .f32 0, .float .f32 0, .float .f32 0, .float .f32 0, .float .f32 0, .float .f32 0, .float .f32 0, .float .f32 0, .float .f32 0, .float .f32 0, .float .f32 0, .float .f32 0, .float .f32 0, .float .f32 0, .float .f32 0, .float .f32 0, .float .f32 0, .float .f32 0, .float .f32 0, .float .f32 0, .float .f32 0, .float .f32 0, .float .f32 0, .float .f32 0, .float .f32 0, .float .f32 0, .float .f32 0, .float .f32 0, .float .f32 0, .float .f32 0, .float .f32 0, .float .f32 0, .float .f32 0, .float .f32 0, .float .f32 0, .float .f32 0, .float .f32 0, .float .f32 0, .float .f32 0, .float .f32 0, .float .f32 0, .float .f32 0, .float .f32 0, .float .f32 0, .float .f32 0, .float .f32 0, .float .f32 0, .float .f32 0, .float .f32 0, .float .f32 0, .float .f32 0, .float .f32 0, .float .f32 0, .float .f32 0, .float .f32 0, .float .f32 0, .float .f32 0, .float .f32 0, .float .f32 0, .float .f32 0, .float .f32 0, .float .f32 0, .float .f32 0, .float .f32 0, .float .f32 0, .float .f32 0, .float .f32 0, .float .f32 0, .float .f32 0, .float .f32 0, .float .f32 0, .float .f32 0, .float .f32 0, .float .f32 0, .float .f32 0, .float .f32 0, .float .f32 0, .float .f32 0, .float .f32 0, .float .f32 0, .float .f32 0, .float .f32 0, .float .f32 0, .float .f32 0, .float .f32 0, .float .f32 0, .float .f32 0, .float .f32 0, .float .f32 0, .float .f32 0, .float .f32 0, .float .f32 0, .float .f32 0, .float .f32 0, .float .f32 0, .float .f32 0, .int .u64 0, .slice none 0 0], .slice none 0 0]
theorem fnExactValidPermits_j0 : (Rows.fnExactValidPermitsRow.inPlace == Tryd.prog.inPlace 4) = true := by kernel_rfl
theorem fnExactValidPermits_j1 : (Rows.fnExactValidPermitsRow.unfollowed == Tryd.prog.unfollowed 4) = true := by kernel_rfl
theorem fnExactValidPermits_j2 : (Rows.fnExactValidPermitsRow.recurses == Tryd.prog.recurses 4) = true := by kernel_rfl
theorem fnExactValidPermits_j3 : (Rows.fnExactValidPermitsRow.named == Tryd.prog.varsNamed 4) = true := by kernel_rfl
theorem fnExactValidPermits_jw : Rows.fnExactValidPermitsRow.wf (OpenSpec.ofChange Rows.fnExactValidPermitsSpec) = true := by kernel_rfl
theorem fnExactValidPermits_jn : namedTie Tryd.prog Rows.fnExactValidPermitsRow.named Rows.fnExactValidPermitsSpec.vars = true := by kernel_rfl
theorem fnExactValidPermits_jf : joinedFacts Tryd.prog 4 Tryd.f4 Rows.fnExactValidPermitsSpec Rows.fnExactValidPermitsRow = true := by
  unfold joinedFacts
  simp only [Bool.and_eq_true]
  exact ⟨⟨⟨⟨⟨⟨⟨⟨⟨⟨⟨⟨⟨⟨⟨⟨⟨⟨⟨⟨⟨⟨⟨⟨⟨⟨⟨⟨⟨⟨⟨fnExactValidPermits_jw, laidOut⟩, (by kernel_rfl)⟩, (by kernel_rfl)⟩, fnExactValidPermits_jn⟩, (by kernel_rfl)⟩, (by kernel_rfl)⟩, (by kernel_rfl)⟩, (by kernel_rfl)⟩, fnExactValidPermits_j0⟩, fnExactValidPermits_j1⟩, fnExactValidPermits_j2⟩, fnExactValidPermits_j3⟩, (by kernel_rfl)⟩, (by kernel_rfl)⟩, (by kernel_rfl)⟩, (by kernel_rfl)⟩, (by kernel_rfl)⟩, (by kernel_rfl)⟩, (by kernel_rfl)⟩, (by kernel_rfl)⟩, (by kernel_rfl)⟩, (by kernel_rfl)⟩, (by kernel_rfl)⟩, (by kernel_rfl)⟩, seat_me⟩, seat_lf⟩, seat_mk⟩, (by kernel_rfl)⟩, (by kernel_rfl)⟩, (by kernel_rfl)⟩, (by kernel_rfl)⟩
theorem fnExactValidPermits_nm : Tryd.pinned.checked.prog.funcNamed Rows.fnExactValidPermitsRow.func = some 4 := by kernel_rfl
theorem fnExactValidPermits_rd : ∀ t ∈ Tryd.f4.params.toList, Tryd.prog.readableRec t = true ∧ t < Tryd.prog.types.size := by rw [Tryd.params4]; exact (by decide +kernel)
theorem fnExactValidPermits_ok (os : Os) : Input.okWideB Tryd.checked.prog ((World.doorLaid Tryd.prog 400 os).forCall (fun _ _ => 0) ⟨#[], fnExactValidPermits_w, []⟩) 4 ⟨#[], fnExactValidPermits_w, []⟩ = true := by kernel_rfl
theorem fnExactValidPermits_pb (os : Os) (H : Type) (enc : TypeId × Value → H) : Rows.fnExactValidPermitsSpec.preB enc Tryd.checked.prog Tryd.f4 [] false ((World.doorLaid Tryd.prog 400 os).forCall (fun _ _ => 0) ⟨#[], fnExactValidPermits_w, []⟩).memory fnExactValidPermits_w 16 = true := by kernel_rfl
theorem fnExactValidPermits_sb (os : Os) (H : Type) (enc : TypeId × Value → H) : Rows.fnExactValidPermitsSpec.sizedB enc Tryd.checked.prog Tryd.f4 false ((World.doorLaid Tryd.prog 400 os).forCall (fun _ _ => 0) ⟨#[], fnExactValidPermits_w, []⟩).memory fnExactValidPermits_w 16 = true := by kernel_rfl
theorem fnExactValidPermits_sh (os : Os) : ((World.doorLaid Tryd.prog 400 os).forCall (fun _ _ => 0) ⟨#[], fnExactValidPermits_w, []⟩).Shaped Tryd.checked.prog := World.shaped_of_B (by kernel_rfl) (by kernel_rfl)
theorem fnExactValidPermits_row : Rows.FnExactValidPermitsSaid :=
  OpenClaim.holds_of_wide 4 Tryd.f4 rfl rfl rfl rfl rfl rfl rfl ⟨rfl, rfl, rfl, rfl, rfl⟩ rfl rfl rfl rfl rfl fnExactValidPermits_nm Tryd.func4 fnExactValidPermits_jf
    (of_decide_eq_true (by kernel_rfl)) (by unfold Func.isWrapper; first | (rw [if_pos (by decide +kernel)]; kernel_rfl) | (rw [if_neg (by decide +kernel)]; exact ⟨rfl, rfl⟩))
    (fun os started H enc _ => liftTS 4 Tryd.f4 Rows.fnExactValidPermitsSpec Tryd.func4 rfl rfl
      (fun H ds h => match ds, h with | [d0, d1], _ => rfl)
      fnExactValidPermits_rd
      fnExactValidPermits_walk os started H enc (by kernel_rfl)
      (witnessT 4 Tryd.f4 Rows.fnExactValidPermitsSpec fnExactValidPermits_w os H enc (fnExactValidPermits_sh os) (fnExactValidPermits_ok os) (fnExactValidPermits_pb os H enc) (fnExactValidPermits_sb os H enc)))

set_option maxRecDepth 100000 in
theorem fnExactValidPermits_holds : Rows.FnExactValidPermitsCardSaid :=
  Claim7.holds_tied_plain_at .later [] [.data] true Rows.fnExactValidPermitsCard.stood.harness Rows.fnExactValidPermitsCard.stood.looks
    fnExactValidPermits_row (fun _ h => by cases h) (by kernel_rfl) (fun _ h => by cases h) fnExactValidPermits_row_tie rfl ⟨rfl, rfl⟩ seat_mi (by kernel_rfl)
    (fun f fn hf hfn => by
      obtain rfl : f = 4 := Option.some.inj ((show Tryd.prog.funcNamed "loop.example/g01288/laws.FnExactValidPermits" = some 4 by kernel_rfl).symm.trans hf) |>.symm
      obtain rfl : fn = Tryd.f4 := (Option.some.inj (Tryd.func4.symm.trans hfn)).symm
      refine ⟨by kernel_rfl, fun j t ht => ?_⟩
      have hall : Tryd.f4.params.toList.all (fun t => !Tryd.prog.wantsStandIn t) = true := by kernel_rfl
      have hm : t ∈ Tryd.f4.params.toList := Array.mem_toList_iff.2 (Array.mem_of_getElem? ht)
      have h := List.all_eq_true.1 hall t hm
      simp only [Bool.not_eq_true'] at h
      exact h)
    (by kernel_rfl)
#print axioms fnExactValidPermits_holds
end Go.Proofs.YthncidjgpbjdbaaDoor
