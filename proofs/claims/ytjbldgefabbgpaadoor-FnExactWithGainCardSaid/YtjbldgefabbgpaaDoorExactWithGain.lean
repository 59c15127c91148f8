/- The law FnExactWithGain of this commit: for every input the call returns true, and each argument reads afterwards as it read before. Condition: the table of math/bits is as its initialiser lays it (the card ties it to the program's text). -/
import Derived.Test.YtjbldgefabbgpaaDoorLawWithGain
import Derived.Test.YtjbldgefabbgpaaDoorSeat
import Derived.Test.YtjbldgefabbgpaaDoorCards
import Derived.Test.YtjbldgefabbgpaaDoorTie
import Derived.SevenTiedAt
namespace Go.Proofs.YtjbldgefabbgpaaDoor
open Go.ChangeShapes Go.WideShapes Go.ChangeAt Go.RowKit

set_option maxRecDepth 100000
def fnExactWithGain_w : Array Value := #[.agg #[.int .i8 0, .int .i8 0, .float .f32 0, .float .f32 0, .float .f32 0, .float .f32 0, .float .f32 0, .float .f32 0, .float .f32 0, .float .f32 0, .float .f32 0, .float .f32 0, .float .f32 0, .float .f32 0, .float .f32 0, .float .f32 0, .float .f32 0, .float .f32 0, .float .f32 0, .float .f32 0, .float .f32 0, .float .f32 0, .float .f32 0, .float .f32 0, .float .f32 0, .float .f32 0, .float .f32 0, .float .f32 0, .float .f32 0, .float .f32 0, .float .f32 0, .float .f32 0, .float .f32 0, .float .f32 0, .float .f32 0, .float .f32 0, .float .f32 0, .float .f32 0, .float .f32 0, .float .f32 0, .float .f32 0, .float .f32 0, .float .f32 0, .float .f32 0, .float .f32 0, .float .f32 0, .float .f32 0, .float .f32 0, .float .f32 0, .float .f32 0, .float .f32 0, .float .f32 0, .float .f32 0, .float .f32 0, .float .f32 0, .float .f32 0, .float .f32 0, .float .f32 0, .float .f32 0, .float .f32 0, .float .f32 0, .float .f32 0, .float .f32 0, .float .f32 0, .float .f32 0, .float .f32 0, .float .f32 0, .float .f32 0, .float .f32 0, .float .f32 0, .float .f32 0, .float .f32 0, .float .f32 0, .float .f32 0, .float .f32 0, .float .f32 0, .float .f32 0, .float .f32 0, .float .f32 0, .float .f32 0, .float .f32 0, .float .f32 0, .float .f32 0, .float .f32 0, .float .f32 0, .float .f32 0, .float .f32 0, .float .f32 0, .float .f32 0, .float .f32 0, .float .f32 0, .float .f32 0, .float .f32 0, .float .f32 0, .float .f32 0, .float .f32 0, .float .f32 0, .float .f32 0, .float .f32 0, .float .f32 0, .float .f32 0, .float .f32 0, .float .f32 0, .float .f32 0, .float .f32 0, .float .f32 0, .float .f32 0, .float .f32 0, .float .f32 0, .float .f32 0, .float .f32 0, .float .f32 0, .float .f32 0, .float .f32 0, .float .f32 0, .float .f32 0, .float .f32 0, .float .f32 0, .float .f32 0, .float .f32 0, .float .f32 0, .float .f32 0, .float .f32 0, .float .f32 0, .float .f32 0, .float .f32 0, .float .f32 0, .float .f32 0, .float .f32 0, .float .f32 0, .float .f32 0, .float .f32 0, .float .f32 0, .float .f32 0, .float .f32 0, .float .f32 0, .float .f32 0, .float .f32 0, .float .f32 0, .float .f32 0, .float .f32 0, .float .f32 0, .float .f32 0, .float .f32 0, .float .f32 0, .float .f32 0, .float .f32 0, .float .f32 0, .float .f32 0, .float .f32 0, .float .f32 0, .float .f32 0, .float .f32 0, .float .f32 0, .float .f32 0, .float .f32 0, .float .f32 0, .float .f32 0, .float .f32 0, .float .f32 0, .float .f32 0, .float .f32 0, .float .f32 0, .float .f32 0, .float .f32 0, .float .f32 0, .float .f32 0, .float .f32 0, .float .f32 0, .float .f32 0, .float .f32 0, .float .f32 0, .float .f32 0, .float .f32 0, .float .f32 0, .float .f32 0, .float .f32 0, .float .f32 0, .float .f32 0, .float .f32 0, .float .f32 0, .float .f32 0, .float .f32 0, .float .f32 0, .float .f32 0, .float .f32 0, .float .f32 0, .float .f32 0, .float .f32 0, .float .f32 0, .float .f32 0, .float .f32 0, .float .f32 0, .float .f32 0, .int .u64 0], .int .i64 0, .float .f32 0]
theorem fnExactWithGain_j0 : (Rows.fnExactWithGainRow.inPlace == Tryd.prog.inPlace 8) = true := by kernel_rfl
theorem fnExactWithGain_j1 : (Rows.fnExactWithGainRow.unfollowed == Tryd.prog.unfollowed 8) = true := by kernel_rfl
theorem fnExactWithGain_j2 : (Rows.fnExactWithGainRow.recurses == Tryd.prog.recurses 8) = true := by kernel_rfl
theorem fnExactWithGain_j3 : (Rows.fnExactWithGainRow.named == Tryd.prog.varsNamed 8) = true := by kernel_rfl
theorem fnExactWithGain_jw : Rows.fnExactWithGainRow.wf (OpenSpec.ofChange Rows.fnExactWithGainSpec) = true := by kernel_rfl
theorem fnExactWithGain_jn : namedTie Tryd.prog Rows.fnExactWithGainRow.named Rows.fnExactWithGainSpec.vars = true := by kernel_rfl
theorem fnExactWithGain_jf : joinedFacts Tryd.prog 8 Tryd.f8 Rows.fnExactWithGainSpec Rows.fnExactWithGainRow = true := by
  unfold joinedFacts
  simp only [Bool.and_eq_true]
  exact ⟨⟨⟨⟨⟨⟨⟨⟨⟨⟨⟨⟨⟨⟨⟨⟨⟨⟨⟨⟨⟨⟨⟨⟨⟨⟨⟨⟨⟨⟨⟨fnExactWithGain_jw, laidOut⟩, (by kernel_rfl)⟩, (by kernel_rfl)⟩, fnExactWithGain_jn⟩, (by kernel_rfl)⟩, (by kernel_rfl)⟩, (by kernel_rfl)⟩, (by kernel_rfl)⟩, fnExactWithGain_j0⟩, fnExactWithGain_j1⟩, fnExactWithGain_j2⟩, fnExactWithGain_j3⟩, (by kernel_rfl)⟩, (by kernel_rfl)⟩, (by kernel_rfl)⟩, (by kernel_rfl)⟩, (by kernel_rfl)⟩, (by kernel_rfl)⟩, (by kernel_rfl)⟩, (by kernel_rfl)⟩, (by kernel_rfl)⟩, (by kernel_rfl)⟩, (by kernel_rfl)⟩, (by kernel_rfl)⟩, seat_me⟩, seat_lf⟩, seat_mk⟩, (by kernel_rfl)⟩, (by kernel_rfl)⟩, (by kernel_rfl)⟩, (by kernel_rfl)⟩
theorem fnExactWithGain_nm : Tryd.pinned.checked.prog.funcNamed Rows.fnExactWithGainRow.func = some 8 := by kernel_rfl
theorem fnExactWithGain_rd : ∀ t ∈ Tryd.f8.params.toList, Tryd.prog.readableRec t = true ∧ t < Tryd.prog.types.size := by rw [Tryd.params8]; exact (by decide +kernel)
theorem fnExactWithGain_ok (os : Os) : Input.okWideB Tryd.checked.prog ((World.doorLaid Tryd.prog 400 os).forCall (fun _ _ => 0) ⟨#[], fnExactWithGain_w, []⟩) 8 ⟨#[], fnExactWithGain_w, []⟩ = true := by kernel_rfl
theorem fnExactWithGain_pb (os : Os) (H : Type) (enc : TypeId × Value → H) : Rows.fnExactWithGainSpec.preB enc Tryd.checked.prog Tryd.f8 [] false ((World.doorLaid Tryd.prog 400 os).forCall (fun _ _ => 0) ⟨#[], fnExactWithGain_w, []⟩).memory fnExactWithGain_w 16 = true := by kernel_rfl
theorem fnExactWithGain_sb (os : Os) (H : Type) (enc : TypeId × Value → H) : Rows.fnExactWithGainSpec.sizedB enc Tryd.checked.prog Tryd.f8 false ((World.doorLaid Tryd.prog 400 os).forCall (fun _ _ => 0) ⟨#[], fnExactWithGain_w, []⟩).memory fnExactWithGain_w 16 = true := by kernel_rfl
theorem fnExactWithGain_sh (os : Os) : ((World.doorLaid Tryd.prog 400 os).forCall (fun _ _ => 0) ⟨#[], fnExactWithGain_w, []⟩).Shaped Tryd.checked.prog := World.shaped_of_B (by kernel_rfl) (by kernel_rfl)
theorem fnExactWithGain_row : Rows.FnExactWithGainSaid :=
  OpenClaim.holds_of_wide 8 Tryd.f8 rfl rfl rfl rfl rfl rfl rfl ⟨rfl, rfl, rfl, rfl, rfl⟩ rfl rfl rfl rfl rfl fnExactWithGain_nm Tryd.func8 fnExactWithGain_jf
    (of_decide_eq_true (by kernel_rfl)) (by unfold Func.isWrapper; first | (rw [if_pos (by decide +kernel)]; kernel_rfl) | (rw [if_neg (by decide +kernel)]; exact ⟨rfl, rfl⟩))
    (fun os started H enc _ => liftT 8 Tryd.f8 Rows.fnExactWithGainSpec Tryd.func8 rfl rfl
      (fun H ds h => match ds, h with | [d0, d1, d2], _ => rfl)
      fnExactWithGain_rd
      fnExactWithGain_walk os started H enc (by kernel_rfl)
      (witnessT 8 Tryd.f8 Rows.fnExactWithGainSpec fnExactWithGain_w os H enc (fnExactWithGain_sh os) (fnExactWithGain_ok os) (fnExactWithGain_pb os H enc) (fnExactWithGain_sb os H enc)))

set_option maxRecDepth 100000 in
theorem fnExactWithGain_holds : Rows.FnExactWithGainCardSaid :=
  Claim7.holds_tied_plain_at .later [] [.data] true Rows.fnExactWithGainCard.stood.harness Rows.fnExactWithGainCard.stood.looks
    fnExactWithGain_row (fun _ h => by cases h) (by kernel_rfl) (fun _ h => by cases h) fnExactWithGain_row_tie rfl ⟨rfl, rfl⟩ seat_mi (by kernel_rfl)
    (fun f fn hf hfn => by
      obtain rfl : f = 8 := Option.some.inj ((show Tryd.prog.funcNamed "loop.example/g01288/laws.FnExactWithGain" = some 8 by kernel_rfl).symm.trans hf) |>.symm
      obtain rfl : fn = Tryd.f8 := (Option.some.inj (Tryd.func8.symm.trans hfn)).symm
      refine ⟨by kernel_rfl, fun j t ht => ?_⟩
      have hall : Tryd.f8.params.toList.all (fun t => !Tryd.prog.wantsStandIn t) = true := by kernel_rfl
      have hm : t ∈ Tryd.f8.params.toList := Array.mem_toList_iff.2 (Array.mem_of_getElem? ht)
      have h := List.all_eq_true.1 hall t hm
      simp only [Bool.not_eq_true'] at h
      exact h)
    (by kernel_rfl)
#print axioms fnExactWithGain_holds
end Go.Proofs.YtjbldgefabbgpaaDoor
