/- The law FnExactSettledHead of this commit: for every input the call returns true, and each argument reads afterwards as it read before. Condition: the table of math/bits is as its initialiser lays it (the card ties it to the program's text). -/
import Derived.Test.YtdhnneidkdoplaaDoorLawSettledHead
import Derived.Test.YtdhnneidkdoplaaDoorSeat
import Derived.Test.YtdhnneidkdoplaaDoorCards
import Derived.Test.YtdhnneidkdoplaaDoorTie
import Derived.SevenTiedAt
namespace Go.Proofs.YtdhnneidkdoplaaDoor
open Go.ChangeShapes Go.WideShapes Go.ChangeAt Go.RowKit

set_option maxRecDepth 100000
def fnExactSettledHead_w : Array Value := #[.agg #[.int .i8 0, .int .i8 0, .float .f32 0, .float .f32 0, .float .f32 0, .float .f32 0, .float .f32 0, .float .f32 0, .float .f32 0, .float .f32 0, .float .f32 0, .float .f32 0, .float .f32 0, .float .f32 0, .float .f32 0, .float .f32 0, .float .f32 0, .float .f32 0, .float .f32 0, .float .f32 0, .float .f32 0, .float .f32 0, .float .f32 0, .float .f32 0, .float .f32 0, .float .f32 0, .float .f32 0, .float .f32 0, .float .f32 0, .float .f32 0, .float .f32 0, .float .f32 0, .float .f32 0, .float .f32 0, .float .f32 0, .float .f32 0, .float .f32 0, .float .f32 0, .float .f32 0, .float .f32 0, .float .f32 0, .float .f32 0, .float .f32 0, .float .f32 0, .float .f32 0, .float .f32 0, .float .f32 0, .float .f32 0, .float .f32 0, .float .f32 0, .float .f32 0, .float .f32 0, .float .f32 0, .float .f32 0, .float .f32 0, .float .f32 0, .float .f32 0, .float .f32 0, .float .f32 0, .float .f32 0, .float .f32 0, .float .f32 0, .float .f32 0, .float .f32 0, .float .f32 0, .float .f32 0, .float .f32 0, .float .f32 0, .float .f32 0, .float .f32 0, .float .f32 0, .float .f32 0, .float .f32 0, .float .f32 0, .float .f32 0, .float .f32 0, .float .f32 0, .float .f32 0, .float .f32 0, .float .f32 0, .float .f32 0, .float .f32 0, .float .f32 0, .float .f32 0, .float .f32 0, .float .f32 0, .float .f32 0, .float .f32 0, .float .f32 0, .float .f32 0, .float .f32 0, .float .f32 0, .float .f32 0, .float .f32 0, .float .f32 0, .float .f32 0, .float .f32 0, .float .f32 0, .float .f32 0, .float .f32 0, .float .f32 0, .float .f32 0, .float .f32 0, .float .f32 0, .float .f32 0, .float .f32 0, .float .f32 0, .float .f32 0, .float .f32 0, .float .f32 0, .float .f32 0, .float .f32 0, .float .f32 0, .float .f32 0, .float .f32 0, .float .f32 0, .float .f32 0, .float .f32 0, .float .f32 0, .float .f32 0, .float .f32 0, .float .f32 0, .float .f32 0, .float .f32 0, .float .f32 0, .float .f32 0, .float .f32 0, .float .f32 0, .float .f32 0, .float .f32 0, .float .f32 0, .float .f32 0, .float .f32 0, .float .f32 0, .float .f32 0, .float .f32 0, .float .f32 0, .float .f32 0, .float .f32 0, .float .f32 0, .float .f32 0, .float .f32 0, .float .f32 0, .float .f32 0, .float .f32 0, .float .f32 0, .float .f32 0, .float .f32 0, .float .f32 0, .float .f32 0, .float .f32 0, .float .f32 0, .float .f32 0, .float .f32 0, .float .f32 0, .float .f32 0, .float .f32 0, .float .f32 0, .float .f32 0, .float .f32 0, .float .f32 0, .float .f32 0, .float .f32 0, .float .f32 0, .float .f32 0, .float .f32 0, .float .f32 0, .float .f32 0, .float .f32 0, .float .f32 0, .float .f32 0, .float .f32 0, .float .f32 0, .float .f32 0, .float .f32 0, .float .f32 0, .float .f32 0, .float .f32 0, .float .f32 0, .float .f32 0, .float .f32 0, .float .f32 0, .float .f32 0, .float .f32 0, .float .f32 0, .float .f32 0, .float .f32 0, .float .f32 0, .float .f32 0, .float .f32 0, .float .f32 0, .float .f32 0, .float .f32 0, .float .f32 0, .int .u64 0], .int .i64 0]
theorem fnExactSettledHead_j0 : (Rows.fnExactSettledHeadRow.inPlace == Tryd.prog.inPlace 4) = true := by kernel_rfl
theorem fnExactSettledHead_j1 : (Rows.fnExactSettledHeadRow.unfollowed == Tryd.prog.unfollowed 4) = true := by kernel_rfl
theorem fnExactSettledHead_j2 : (Rows.fnExactSettledHeadRow.recurses == Tryd.prog.recurses 4) = true := by kernel_rfl
theorem fnExactSettledHead_j3 : (Rows.fnExactSettledHeadRow.named == Tryd.prog.varsNamed 4) = true := by kernel_rfl
theorem fnExactSettledHead_jw : Rows.fnExactSettledHeadRow.wf (OpenSpec.ofChange Rows.fnExactSettledHeadSpec) = true := by kernel_rfl
theorem fnExactSettledHead_jn : namedTie Tryd.prog Rows.fnExactSettledHeadRow.named Rows.fnExactSettledHeadSpec.vars = true := by kernel_rfl
theorem fnExactSettledHead_jf : joinedFacts Tryd.prog 4 Tryd.f4 Rows.fnExactSettledHeadSpec Rows.fnExactSettledHeadRow = true := by
  unfold joinedFacts
  simp only [Bool.and_eq_true]
  exact ⟨⟨⟨⟨⟨⟨⟨⟨⟨⟨⟨⟨⟨⟨⟨⟨⟨⟨⟨⟨⟨⟨⟨⟨⟨⟨⟨⟨⟨⟨⟨fnExactSettledHead_jw, laidOut⟩, (by kernel_rfl)⟩, (by kernel_rfl)⟩, fnExactSettledHead_jn⟩, (by kernel_rfl)⟩, (by kernel_rfl)⟩, (by kernel_rfl)⟩, (by kernel_rfl)⟩, fnExactSettledHead_j0⟩, fnExactSettledHead_j1⟩, fnExactSettledHead_j2⟩, fnExactSettledHead_j3⟩, (by kernel_rfl)⟩, (by kernel_rfl)⟩, (by kernel_rfl)⟩, (by kernel_rfl)⟩, (by kernel_rfl)⟩, (by kernel_rfl)⟩, (by kernel_rfl)⟩, (by kernel_rfl)⟩, (by kernel_rfl)⟩, (by kernel_rfl)⟩, (by kernel_rfl)⟩, (by kernel_rfl)⟩, seat_me⟩, seat_lf⟩, seat_mk⟩, (by kernel_rfl)⟩, (by kernel_rfl)⟩, (by kernel_rfl)⟩, (by kernel_rfl)⟩
theorem fnExactSettledHead_nm : Tryd.pinned.checked.prog.funcNamed Rows.fnExactSettledHeadRow.func = some 4 := by kernel_rfl
theorem fnExactSettledHead_rd : ∀ t ∈ Tryd.f4.params.toList, Tryd.prog.readableRec t = true ∧ t < Tryd.prog.types.size := by rw [Tryd.params4]; exact (by decide +kernel)
theorem fnExactSettledHead_ok (os : Os) : Input.okWideB Tryd.checked.prog ((World.doorLaid Tryd.prog 400 os).forCall (fun _ _ => 0) ⟨#[], fnExactSettledHead_w, []⟩) 4 ⟨#[], fnExactSettledHead_w, []⟩ = true := by kernel_rfl
theorem fnExactSettledHead_pb (os : Os) (H : Type) (enc : TypeId × Value → H) : Rows.fnExactSettledHeadSpec.preB enc Tryd.checked.prog Tryd.f4 [] false ((World.doorLaid Tryd.prog 400 os).forCall (fun _ _ => 0) ⟨#[], fnExactSettledHead_w, []⟩).memory fnExactSettledHead_w 16 = true := by kernel_rfl
theorem fnExactSettledHead_sb (os : Os) (H : Type) (enc : TypeId × Value → H) : Rows.fnExactSettledHeadSpec.sizedB enc Tryd.checked.prog Tryd.f4 false ((World.doorLaid Tryd.prog 400 os).forCall (fun _ _ => 0) ⟨#[], fnExactSettledHead_w, []⟩).memory fnExactSettledHead_w 16 = true := by kernel_rfl
theorem fnExactSettledHead_sh (os : Os) : ((World.doorLaid Tryd.prog 400 os).forCall (fun _ _ => 0) ⟨#[], fnExactSettledHead_w, []⟩).Shaped Tryd.checked.prog := World.shaped_of_B (by kernel_rfl) (by kernel_rfl)
theorem fnExactSettledHead_row : Rows.FnExactSettledHeadSaid :=
  OpenClaim.holds_of_wide 4 Tryd.f4 rfl rfl rfl rfl rfl rfl rfl ⟨rfl, rfl, rfl, rfl, rfl⟩ rfl rfl rfl rfl rfl fnExactSettledHead_nm Tryd.func4 fnExactSettledHead_jf
    (of_decide_eq_true (by kernel_rfl)) (by unfold Func.isWrapper; first | (rw [if_pos (by decide +kernel)]; kernel_rfl) | (rw [if_neg (by decide +kernel)]; exact ⟨rfl, rfl⟩))
    (fun os started H enc _ => liftT 4 Tryd.f4 Rows.fnExactSettledHeadSpec Tryd.func4 rfl rfl
      (fun H ds h => match ds, h with | [d0, d1], _ => rfl)
      fnExactSettledHead_rd
      fnExactSettledHead_walk os started H enc (by kernel_rfl)
      (witnessT 4 Tryd.f4 Rows.fnExactSettledHeadSpec fnExactSettledHead_w os H enc (fnExactSettledHead_sh os) (fnExactSettledHead_ok os) (fnExactSettledHead_pb os H enc) (fnExactSettledHead_sb os H enc)))

set_option maxRecDepth 100000 in
theorem fnExactSettledHead_holds : Rows.FnExactSettledHeadCardSaid :=
  Claim7.holds_tied_plain_at .later [] [.data] true Rows.fnExactSettledHeadCard.stood.harness Rows.fnExactSettledHeadCard.stood.looks
    fnExactSettledHead_row (fun _ h => by cases h) (by kernel_rfl) (fun _ h => by cases h) fnExactSettledHead_row_tie rfl ⟨rfl, rfl⟩ seat_mi (by kernel_rfl)
    (fun f fn hf hfn => by
      obtain rfl : f = 4 := Option.some.inj ((show Tryd.prog.funcNamed "loop.example/g01288/laws.FnExactSettledHead" = some 4 by kernel_rfl).symm.trans hf) |>.symm
      obtain rfl : fn = Tryd.f4 := (Option.some.inj (Tryd.func4.symm.trans hfn)).symm
      refine ⟨by kernel_rfl, fun j t ht => ?_⟩
      have hall : Tryd.f4.params.toList.all (fun t => !Tryd.prog.wantsStandIn t) = true := by kernel_rfl
      have hm : t ∈ Tryd.f4.params.toList := Array.mem_toList_iff.2 (Array.mem_of_getElem? ht)
      have h := List.all_eq_true.1 hall t hm
      simp only [Bool.not_eq_true'] at h
      exact h)
    (by kernel_rfl)
#print axioms fnExactSettledHead_holds
end Go.Proofs.YtdhnneidkdoplaaDoor
