/- The law FnExactComesIn of this commit: for every input the call returns true, and each argument reads afterwards as it read before. Condition: the table of math/bits is as its initialiser lays it (the card ties it to the program's text). -/
import Derived.Test.YtjmekgogaiokpaaDoorLawComesIn
import Derived.Test.YtjmekgogaiokpaaDoorSeat
import Derived.Test.YtjmekgogaiokpaaDoorCards
import Derived.Test.YtjmekgogaiokpaaDoorTie
import Derived.SevenTiedAt
namespace Go.Proofs.YtjmekgogaiokpaaDoor
open Go.ChangeShapes Go.WideShapes Go.ChangeAt Go.RowKit

set_option maxRecDepth 100000
def fnExactComesIn_w : Array Value := #[.agg #[.int .i8 0, .int .i8 0, .float .f32 0, .float .f32 0, .float .f32 0, .float .f32 0, .float .f32 0, .float .f32 0, .float .f32 0, .float .f32 0, .float .f32 0, .float .f32 0, .float .f32 0, .float .f32 0, .float .f32 0, .float .f32 0, .float .f32 0, .float .f32 0, .float .f32 0, .float .f32 0, .float .f32 0, .float .f32 0, .float .f32 0, .float .f32 0, .float .f32 0, .float .f32 0, .float .f32 0, .float .f32 0, .float .f32 0, .float .f32 0, .float .f32 0, .float .f32 0, .float .f32 0, .float .f32 0, .float .f32 0, .float .f32 0, .float .f32 0, .float .f32 0, .float .f32 0, .float .f32 0, .float .f32 0, .float .f32 0, .float .f32 0, .float .f32 0, .float .f32 0, .float .f32 0, .float .f32 0, .float .f32 0, .float .f32 0, .float .f32 0, .float .f32 0, .float .f32 0, .float .f32 0, .float .f32 0, .float .f32 0, .float .f32 0, .float .f32 0, .float .f32 0, .float .f32 0, .float .f32 0, .float .f32 0, .float .f32 0, .float .f32 0, .float .f32 0, .float .f32 0, .float .f32 0, .float .f32 0, .float .f32 0, .float .f32 0, .float .f32 0, .float .f32 0, .float .f32 0, .float .f32 0, .float .f32 0, .float .f32 0, .float .f32 0, .float .f32 0, .float .f32 0, .float .f32 0, .float .f32 0, .float .f32 0, .float .f32 0, .float .f32 0, .float .f32 0, .float .f32 0, .float .f32 0, .float .f32 0, .float .f32 0, .float .f32 0, .float .f32 0, .float .f32 0, .float .f32 0, .float .f32 0, .float .f32 0, .float .f32 0, .float .f32 0, .float .f32 0, .float .f32 0, .float .f32 0, .float .f32 0, .float .f32 0, .float .f32 0, .float .f32 0, .float .f32 0, .float .f32 0, .float .f32 0, .float .f32 0, .float .f32 0, .float .f32 0, .float .f32 0, .float .f32 0, .float .f32 0, .float .f32 0, .float .f32 0, .float .f32 0, .float .f32 0, .float .f32 0, .float .f32 0, .float .f32 0, .float .f32 0, .float .f32 0, .float .f32 0, .float .f32 0, .float .f32 0, .float .f32 0, .float .f32 0, .float .f32 0, .float .f32 0, .float .f32 0, .float .f32 0, .float .f32 0, .float .f32 0, .float .f32 0, .float .f32 0, .float .f32 0, .float .f32 0, .float .f32 0, .float .f32 0, .float .f32 0, .float .f32 0, .float .f32 0, .float .f32 0, .float .f32 0, .float .f32 0, .float .f32 0, .float .f32 0, .float .f32 0, .float .f32 0, .float .f32 0, .float .f32 0, .float .f32 0, .float .f32 0, .float .f32 0, .float .f32 0, .float .f32 0, .float .f32 0, .float .f32 0, .float .f32 0, .float .f32 0, .float .f32 0, .float .f32 0, .float .f32 0, .float .f32 0, .float .f32 0, .float .f32 0, .float .f32 0, .float .f32 0, .float .f32 0, .float .f32 0, .float .f32 0, .float .f32 0, .float .f32 0, .float .f32 0, .float .f32 0, .float .f32 0, .float .f32 0, .float .f32 0, .float .f32 0, .float .f32 0, .float .f32 0, .float .f32 0, .float .f32 0, .float .f32 0, .float .f32 0, .float .f32 0, .float .f32 0, .float .f32 0, .float .f32 0, .float .f32 0, .float .f32 0, .float .f32 0, .float .f32 0, .float .f32 0, .float .f32 0, .int .u64 0, .float .f32 0, .float .f32 0, .float .f32 0, .float .f32 0, .float .f32 0, .float .f32 0, .float .f32 0, .float .f32 0, .float .f32 0, .float .f32 0, .float .f32 0, .float .f32 0, .float .f32 0, .float .f32 0, .float .f32 0, .float .f32 0, .float .f32 0, .float .f32 0, .float .f32 0, .float .f32 0, .float .f32 0, .float .f32 0, .float .f32 0, .float .f32 0, .float .f32 0, .float .f32 0, .float .f32 0, .float .f32 0, .float .f32 0, .float .f32 0, .float .f32 0, .float .f32 0, .float .f32 0, .float .f32 0, .float .f32 0, .float .f32 0, .float .f32 0, .float .f32 0, .float .f32 0, .float .f32 0, .float .f32 0, .float .f32 0, .float .f32 0, .float .f32 0, .float .f32 0, .float .f32 0, .float .f32 0, .float .f32 0, .float .f32 0, .float .f32 0, .float .f32 0, .float .f32 0, .float .f32 0, .float .f32 0, .float .f32 0, .float .f32 0, .float .f32 0, .float .f32 0, .float .f32 0, .float .f32 0, .float .f32 0, .float .f32 0, .float .f32 0, .float .f32 0, .float .f32 0, .float .f32 0, .float .f32 0, .float .f32 0, .float .f32 0, .float .f32 0, .float .f32 0, .float .f32 0, .float .f32 0, .float .f32 0, .float .f32 0, .float .f32 0, .float .f32 0, .float .f32 0, .float .f32 0, .float .f32 0, .float .f32 0, .float .f32 0, .float .f32 0, .float .f32 0, .float .f32 0, .float .f32 0, .float .f32 0, .float .f32 0, .float .f32 0, .float .f32 0, .float .f32 0, .float .f32 0, .float .f32 0, .float .f32 0, .float .f32 0, .float .f32 0, .float .f32 0, .float .f32 0, .float .f32 0, .float .f32 0, .float .f32 0, .float .f32 0, .float .f32 0, .float .f32 0, .float .f32 0, .float .f32 0, .float .f32 0, .float .f32 0, .float .f32 0, .float .f32 0, .float .f32 0, .float .f32 0, .float .f32 0, .float .f32 0, .float .f32 0, .float .f32 0, .float .f32 0, .float .f32 0, .float .f32 0, .float .f32 0, .float .f32 0, .float .f32 0, .float .f32 0, .float .f32 0, .float .f32 0, .float .f32 0, .float .f32 0, .float .f32 0, .float .f32 0], .int .i64 0]
theorem fnExactComesIn_j0 : (Rows.fnExactComesInRow.inPlace == Tryd.prog.inPlace 7) = true := by kernel_rfl
theorem fnExactComesIn_j1 : (Rows.fnExactComesInRow.unfollowed == Tryd.prog.unfollowed 7) = true := by kernel_rfl
theorem fnExactComesIn_j2 : (Rows.fnExactComesInRow.recurses == Tryd.prog.recurses 7) = true := by kernel_rfl
theorem fnExactComesIn_j3 : (Rows.fnExactComesInRow.named == Tryd.prog.varsNamed 7) = true := by kernel_rfl
theorem fnExactComesIn_jw : Rows.fnExactComesInRow.wf (OpenSpec.ofChange Rows.fnExactComesInSpec) = true := by kernel_rfl
theorem fnExactComesIn_jn : namedTie Tryd.prog Rows.fnExactComesInRow.named Rows.fnExactComesInSpec.vars = true := by kernel_rfl
theorem fnExactComesIn_jf : joinedFacts Tryd.prog 7 Tryd.f7 Rows.fnExactComesInSpec Rows.fnExactComesInRow = true := by
  unfold joinedFacts
  simp only [Bool.and_eq_true]
  exact ⟨⟨⟨⟨⟨⟨⟨⟨⟨⟨⟨⟨⟨⟨⟨⟨⟨⟨⟨⟨⟨⟨⟨⟨⟨⟨⟨⟨⟨⟨⟨fnExactComesIn_jw, laidOut⟩, (by kernel_rfl)⟩, (by kernel_rfl)⟩, fnExactComesIn_jn⟩, (by kernel_rfl)⟩, (by kernel_rfl)⟩, (by kernel_rfl)⟩, (by kernel_rfl)⟩, fnExactComesIn_j0⟩, fnExactComesIn_j1⟩, fnExactComesIn_j2⟩, fnExactComesIn_j3⟩, (by kernel_rfl)⟩, (by kernel_rfl)⟩, (by kernel_rfl)⟩, (by kernel_rfl)⟩, (by kernel_rfl)⟩, (by kernel_rfl)⟩, (by kernel_rfl)⟩, (by kernel_rfl)⟩, (by kernel_rfl)⟩, (by kernel_rfl)⟩, (by kernel_rfl)⟩, (by kernel_rfl)⟩, seat_me⟩, seat_lf⟩, seat_mk⟩, (by kernel_rfl)⟩, (by kernel_rfl)⟩, (by kernel_rfl)⟩, (by kernel_rfl)⟩
theorem fnExactComesIn_nm : Tryd.pinned.checked.prog.funcNamed Rows.fnExactComesInRow.func = some 7 := by kernel_rfl
theorem fnExactComesIn_rd : ∀ t ∈ Tryd.f7.params.toList, Tryd.prog.readableRec t = true ∧ t < Tryd.prog.types.size := by rw [Tryd.params7]; exact (by decide +kernel)
theorem fnExactComesIn_ok (os : Os) : Input.okWideB Tryd.checked.prog ((World.doorLaid Tryd.prog 400 os).forCall (fun _ _ => 0) ⟨#[], fnExactComesIn_w, []⟩) 7 ⟨#[], fnExactComesIn_w, []⟩ = true := by kernel_rfl
theorem fnExactComesIn_pb (os : Os) (H : Type) (enc : TypeId × Value → H) : Rows.fnExactComesInSpec.preB enc Tryd.checked.prog Tryd.f7 [] false ((World.doorLaid Tryd.prog 400 os).forCall (fun _ _ => 0) ⟨#[], fnExactComesIn_w, []⟩).memory fnExactComesIn_w 16 = true := by kernel_rfl
theorem fnExactComesIn_sb (os : Os) (H : Type) (enc : TypeId × Value → H) : Rows.fnExactComesInSpec.sizedB enc Tryd.checked.prog Tryd.f7 false ((World.doorLaid Tryd.prog 400 os).forCall (fun _ _ => 0) ⟨#[], fnExactComesIn_w, []⟩).memory fnExactComesIn_w 16 = true := by kernel_rfl
theorem fnExactComesIn_sh (os : Os) : ((World.doorLaid Tryd.prog 400 os).forCall (fun _ _ => 0) ⟨#[], fnExactComesIn_w, []⟩).Shaped Tryd.checked.prog := World.shaped_of_B (by kernel_rfl) (by kernel_rfl)
theorem fnExactComesIn_row : Rows.FnExactComesInSaid :=
  OpenClaim.holds_of_wide 7 Tryd.f7 rfl rfl rfl rfl rfl rfl rfl ⟨rfl, rfl, rfl, rfl, rfl⟩ rfl rfl rfl rfl rfl fnExactComesIn_nm Tryd.func7 fnExactComesIn_jf
    (of_decide_eq_true (by kernel_rfl)) (by unfold Func.isWrapper; first | (rw [if_pos (by decide +kernel)]; kernel_rfl) | (rw [if_neg (by decide +kernel)]; exact ⟨rfl, rfl⟩))
    (fun os started H enc _ => liftT 7 Tryd.f7 Rows.fnExactComesInSpec Tryd.func7 rfl rfl
      (fun H ds h => match ds, h with | [d0, d1], _ => rfl)
      fnExactComesIn_rd
      fnExactComesIn_walk os started H enc (by kernel_rfl)
      (witnessT 7 Tryd.f7 Rows.fnExactComesInSpec fnExactComesIn_w os H enc (fnExactComesIn_sh os) (fnExactComesIn_ok os) (fnExactComesIn_pb os H enc) (fnExactComesIn_sb os H enc)))

set_option maxRecDepth 100000 in
theorem fnExactComesIn_holds : Rows.FnExactComesInCardSaid :=
  Claim7.holds_tied_plain_at .later [] [.data] true Rows.fnExactComesInCard.stood.harness Rows.fnExactComesInCard.stood.looks
    fnExactComesIn_row (fun _ h => by cases h) (by kernel_rfl) (fun _ h => by cases h) fnExactComesIn_row_tie rfl ⟨rfl, rfl⟩ seat_mi (by kernel_rfl)
    (fun f fn hf hfn => by
      obtain rfl : f = 7 := Option.some.inj ((show Tryd.prog.funcNamed "loop.example/g01288/laws.FnExactComesIn" = some 7 by kernel_rfl).symm.trans hf) |>.symm
      obtain rfl : fn = Tryd.f7 := (Option.some.inj (Tryd.func7.symm.trans hfn)).symm
      refine ⟨by kernel_rfl, fun j t ht => ?_⟩
      have hall : Tryd.f7.params.toList.all (fun t => !Tryd.prog.wantsStandIn t) = true := by kernel_rfl
      have hm : t ∈ Tryd.f7.params.toList := Array.mem_toList_iff.2 (Array.mem_of_getElem? ht)
      have h := List.all_eq_true.1 hall t hm
      simp only [Bool.not_eq_true'] at h
      exact h)
    (by kernel_rfl)
#print axioms fnExactComesIn_holds
end Go.Proofs.YtjmekgogaiokpaaDoor
