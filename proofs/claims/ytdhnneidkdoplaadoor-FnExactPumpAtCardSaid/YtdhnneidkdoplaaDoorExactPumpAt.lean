/- The law FnExactPumpAt of this commit: for every input the call returns true, and each argument reads afterwards as it read before. Condition: the table of math/bits is as its initialiser lays it (the card ties it to the program's text). -/
import Derived.Test.YtdhnneidkdoplaaDoorLawPumpAt
import Derived.Test.YtdhnneidkdoplaaDoorSeat
import Derived.Test.YtdhnneidkdoplaaDoorCards
import Derived.Test.YtdhnneidkdoplaaDoorTie
import Derived.SevenTiedAt
namespace Go.Proofs.YtdhnneidkdoplaaDoor
open Go.ChangeShapes Go.WideShapes Go.ChangeAt Go.RowKit

set_option maxRecDepth 100000
def fnExactPumpAt_w : Array Value := #[.agg #[.int .i8 0, .int .i8 0, .float .f32 0, .float .f32 0, .float .f32 0, .float .f32 0, .float .f32 0, .float .f32 0, .float .f32 0, .float .f32 0, .float .f32 0, .float .f32 0, .float .f32 0, .float .f32 0, .float .f32 0, .float .f32 0, .float .f32 0, .float .f32 0, .float .f32 0, .float .f32 0, .float .f32 0, .float .f32 0, .float .f32 0, .float .f32 0, .float .f32 0, .float .f32 0, .float .f32 0, .float .f32 0, .float .f32 0, .float .f32 0, .float .f32 0, .float .f32 0, .float .f32 0, .float .f32 0, .float .f32 0, .float .f32 0, .float .f32 0, .float .f32 0, .float .f32 0, .float .f32 0, .float .f32 0, .float .f32 0, .float .f32 0, .float .f32 0, .float .f32 0, .float .f32 0, .float .f32 0, .float .f32 0, .float .f32 0, .float .f32 0, .float .f32 0, .float .f32 0, .float .f32 0, .float .f32 0, .float .f32 0, .float .f32 0, .float .f32 0, .float .f32 0, .float .f32 0, .float .f32 0, .float .f32 0, .float .f32 0, .float .f32 0, .float .f32 0, .float .f32 0, .float .f32 0, .float .f32 0, .float .f32 0, .float .f32 0, .float .f32 0, .float .f32 0, .float .f32 0, .float .f32 0, .float .f32 0, .float .f32 0, .float .f32 0, .float .f32 0, .float .f32 0, .float .f32 0, .float .f32 0, .float .f32 0, .float .f32 0, .float .f32 0, .float .f32 0, .float .f32 0, .float .f32 0, .float .f32 0, .float .f32 0, .float .f32 0, .float .f32 0, .float .f32 0, .float .f32 0, .float .f32 0, .float .f32 0, .float .f32 0, .float .f32 0, .float .f32 0, .float .f32 0, .float .f32 0, .float .f32 0, .float .f32 0, .float .f32 0, .float .f32 0, .float .f32 0, .float .f32 0, .float .f32 0, .float .f32 0, .float .f32 0, .float .f32 0, .float .f32 0, .float .f32 0, .float .f32 0, .float .f32 0, .float .f32 0, .float .f32 0, .float .f32 0, .float .f32 0, .float .f32 0, .float .f32 0, .float .f32 0, .float .f32 0, .float .f32 0, .float .f32 0, .float .f32 0, .float .f32 0, .float .f32 0, .float .f32 0, .float .f32 0, .float .f32 0, .float .f32 0, .float .f32 0, .float .f32 0, .float .f32 0, .float .f32 0, .float .f32 0, .float .f32 0, .float .f32 0, .float .f32 0, .float .f32 0, .float .f32 0, .float .f32 0, .float .f32 0, .float .f32 0, .float .f32 0, .float .f32 0, .float .f32 0, .float .f32 0, .float .f32 0, .float .f32 0, .float .f32 0, .float .f32 0, .float .f32 0, .float .f32 0, .float .f32 0, .float .f32 0, .float .f32 0, .float .f32 0, .float .f32 0, .float .f32 0, .float .f32 0, .float .f32 0, .float .f32 0, .float .f32 0, .float .f32 0, .float .f32 0, .float .f32 0, .float .f32 0, .float .f32 0, .float .f32 0, .float .f32 0, .float .f32 0, .float .f32 0, .float .f32 0, .float .f32 0, .float .f32 0, .float .f32 0, .float .f32 0, .float .f32 0, .float .f32 0, .float .f32 0, .float .f32 0, .float .f32 0, .float .f32 0, .float .f32 0, .float .f32 0, .float .f32 0, .float .f32 0, .float .f32 0, .float .f32 0, .float .f32 0, .float .f32 0, .float .f32 0, .float .f32 0, .float .f32 0, .int .u64 0], .int .i64 0, .float .f32 0, .float .f32 0, .int .i64 0]
theorem fnExactPumpAt_j0 : (Rows.fnExactPumpAtRow.inPlace == Tryd.prog.inPlace 16) = true := by kernel_rfl
theorem fnExactPumpAt_j1 : (Rows.fnExactPumpAtRow.unfollowed == Tryd.prog.unfollowed 16) = true := by kernel_rfl
theorem fnExactPumpAt_j2 : (Rows.fnExactPumpAtRow.recurses == Tryd.prog.recurses 16) = true := by kernel_rfl
theorem fnExactPumpAt_j3 : (Rows.fnExactPumpAtRow.named == Tryd.prog.varsNamed 16) = true := by kernel_rfl
theorem fnExactPumpAt_jw : Rows.fnExactPumpAtRow.wf (OpenSpec.ofChange Rows.fnExactPumpAtSpec) = true := by kernel_rfl
theorem fnExactPumpAt_jn : namedTie Tryd.prog Rows.fnExactPumpAtRow.named Rows.fnExactPumpAtSpec.vars = true := by kernel_rfl
theorem fnExactPumpAt_jf : joinedFacts Tryd.prog 16 Tryd.f16 Rows.fnExactPumpAtSpec Rows.fnExactPumpAtRow = true := by
  unfold joinedFacts
  simp only [Bool.and_eq_true]
  exact ⟨⟨⟨⟨⟨⟨⟨⟨⟨⟨⟨⟨⟨⟨⟨⟨⟨⟨⟨⟨⟨⟨⟨⟨⟨⟨⟨⟨⟨⟨⟨fnExactPumpAt_jw, laidOut⟩, (by kernel_rfl)⟩, (by kernel_rfl)⟩, fnExactPumpAt_jn⟩, (by kernel_rfl)⟩, (by kernel_rfl)⟩, (by kernel_rfl)⟩, (by kernel_rfl)⟩, fnExactPumpAt_j0⟩, fnExactPumpAt_j1⟩, fnExactPumpAt_j2⟩, fnExactPumpAt_j3⟩, (by kernel_rfl)⟩, (by kernel_rfl)⟩, (by kernel_rfl)⟩, (by kernel_rfl)⟩, (by kernel_rfl)⟩, (by kernel_rfl)⟩, (by kernel_rfl)⟩, (by kernel_rfl)⟩, (by kernel_rfl)⟩, (by kernel_rfl)⟩, (by kernel_rfl)⟩, (by kernel_rfl)⟩, seat_me⟩, seat_lf⟩, seat_mk⟩, (by kernel_rfl)⟩, (by kernel_rfl)⟩, (by kernel_rfl)⟩, (by kernel_rfl)⟩
theorem fnExactPumpAt_nm : Tryd.pinned.checked.prog.funcNamed Rows.fnExactPumpAtRow.func = some 16 := by kernel_rfl
theorem fnExactPumpAt_rd : ∀ t ∈ Tryd.f16.params.toList, Tryd.prog.readableRec t = true ∧ t < Tryd.prog.types.size := by rw [Tryd.params16]; exact (by decide +kernel)
theorem fnExactPumpAt_ok (os : Os) : Input.okWideB Tryd.checked.prog ((World.doorLaid Tryd.prog 400 os).forCall (fun _ _ => 0) ⟨#[], fnExactPumpAt_w, []⟩) 16 ⟨#[], fnExactPumpAt_w, []⟩ = true := by kernel_rfl
theorem fnExactPumpAt_pb (os : Os) (H : Type) (enc : TypeId × Value → H) : Rows.fnExactPumpAtSpec.preB enc Tryd.checked.prog Tryd.f16 [] false ((World.doorLaid Tryd.prog 400 os).forCall (fun _ _ => 0) ⟨#[], fnExactPumpAt_w, []⟩).memory fnExactPumpAt_w 16 = true := by kernel_rfl
theorem fnExactPumpAt_sb (os : Os) (H : Type) (enc : TypeId × Value → H) : Rows.fnExactPumpAtSpec.sizedB enc Tryd.checked.prog Tryd.f16 false ((World.doorLaid Tryd.prog 400 os).forCall (fun _ _ => 0) ⟨#[], fnExactPumpAt_w, []⟩).memory fnExactPumpAt_w 16 = true := by kernel_rfl
theorem fnExactPumpAt_sh (os : Os) : ((World.doorLaid Tryd.prog 400 os).forCall (fun _ _ => 0) ⟨#[], fnExactPumpAt_w, []⟩).Shaped Tryd.checked.prog := World.shaped_of_B (by kernel_rfl) (by kernel_rfl)
theorem fnExactPumpAt_row : Rows.FnExactPumpAtSaid :=
  OpenClaim.holds_of_wide 16 Tryd.f16 rfl rfl rfl rfl rfl rfl rfl ⟨rfl, rfl, rfl, rfl, rfl⟩ rfl rfl rfl rfl rfl fnExactPumpAt_nm Tryd.func16 fnExactPumpAt_jf
    (of_decide_eq_true (by kernel_rfl)) (by unfold Func.isWrapper; first | (rw [if_pos (by decide +kernel)]; kernel_rfl) | (rw [if_neg (by decide +kernel)]; exact ⟨rfl, rfl⟩))
    (fun os started H enc _ => liftT 16 Tryd.f16 Rows.fnExactPumpAtSpec Tryd.func16 rfl rfl
      (fun H ds h => match ds, h with | [d0, d1, d2, d3, d4], _ => rfl)
      fnExactPumpAt_rd
      fnExactPumpAt_walk os started H enc (by kernel_rfl)
      (witnessT 16 Tryd.f16 Rows.fnExactPumpAtSpec fnExactPumpAt_w os H enc (fnExactPumpAt_sh os) (fnExactPumpAt_ok os) (fnExactPumpAt_pb os H enc) (fnExactPumpAt_sb os H enc)))

set_option maxRecDepth 100000 in
theorem fnExactPumpAt_holds : Rows.FnExactPumpAtCardSaid :=
  Claim7.holds_tied_plain_at .later [] [.data] true Rows.fnExactPumpAtCard.stood.harness Rows.fnExactPumpAtCard.stood.looks
    fnExactPumpAt_row (fun _ h => by cases h) (by kernel_rfl) (fun _ h => by cases h) fnExactPumpAt_row_tie rfl ⟨rfl, rfl⟩ seat_mi (by kernel_rfl)
    (fun f fn hf hfn => by
      obtain rfl : f = 16 := Option.some.inj ((show Tryd.prog.funcNamed "loop.example/g01288/laws.FnExactPumpAt" = some 16 by kernel_rfl).symm.trans hf) |>.symm
      obtain rfl : fn = Tryd.f16 := (Option.some.inj (Tryd.func16.symm.trans hfn)).symm
      refine ⟨by kernel_rfl, fun j t ht => ?_⟩
      have hall : Tryd.f16.params.toList.all (fun t => !Tryd.prog.wantsStandIn t) = true := by kernel_rfl
      have hm : t ∈ Tryd.f16.params.toList := Array.mem_toList_iff.2 (Array.mem_of_getElem? ht)
      have h := List.all_eq_true.1 hall t hm
      simp only [Bool.not_eq_true'] at h
      exact h)
    (by kernel_rfl)
#print axioms fnExactPumpAt_holds
end Go.Proofs.YtdhnneidkdoplaaDoor
