/- The law FnExactNumberText of this commit: for every input the call returns true, and each argument reads afterwards as it read before. Condition: the table of math/bits is as its initialiser lays it (the card ties it to the program's text). -/
import Derived.Test.YtmgafgkpfeoieaaDoorNt
import Derived.Test.YtmgafgkpfeoieaaDoorPl
import Derived.Test.YtmgafgkpfeoieaaDoorLift3
import Derived.Test.YtmgafgkpfeoieaaDoorSeat
import Derived.Test.YtmgafgkpfeoieaaDoorCards
import Derived.Test.YtmgafgkpfeoieaaDoorTie
import Derived.SevenTiedAt
namespace Go.Proofs.YtmgafgkpfeoieaaDoor
open Go.ChangeShapes Go.WideShapes Go.ChangeAt Go.RowKit

set_option maxRecDepth 100000
def fnExactNumberText_w : Array Value := #[.float .f32 0]
theorem fnExactNumberText_j0 : (Rows.fnExactNumberTextRow.inPlace == Tryd.prog.inPlace 3) = true := by kernel_rfl
theorem fnExactNumberText_j1 : (Rows.fnExactNumberTextRow.unfollowed == Tryd.prog.unfollowed 3) = true := by kernel_rfl
theorem fnExactNumberText_j2 : (Rows.fnExactNumberTextRow.recurses == Tryd.prog.recurses 3) = true := by kernel_rfl
theorem fnExactNumberText_j3 : (Rows.fnExactNumberTextRow.named == Tryd.prog.varsNamed 3) = true := by kernel_rfl
theorem fnExactNumberText_jw : Rows.fnExactNumberTextRow.wf (OpenSpec.ofChange Rows.fnExactNumberTextSpec) = true := by kernel_rfl
theorem fnExactNumberText_jn : namedTie Tryd.prog Rows.fnExactNumberTextRow.named Rows.fnExactNumberTextSpec.vars = true := by kernel_rfl
theorem fnExactNumberText_jf : joinedFacts Tryd.prog 3 Tryd.f3 Rows.fnExactNumberTextSpec Rows.fnExactNumberTextRow = true := by
  unfold joinedFacts
  simp only [Bool.and_eq_true]
  exact ⟨⟨⟨⟨⟨⟨⟨⟨⟨⟨⟨⟨⟨⟨⟨⟨⟨⟨⟨⟨⟨⟨⟨⟨⟨⟨⟨⟨⟨⟨⟨fnExactNumberText_jw, laidOut⟩, (by kernel_rfl)⟩, (by kernel_rfl)⟩, fnExactNumberText_jn⟩, (by kernel_rfl)⟩, (by kernel_rfl)⟩, (by kernel_rfl)⟩, (by kernel_rfl)⟩, fnExactNumberText_j0⟩, fnExactNumberText_j1⟩, fnExactNumberText_j2⟩, fnExactNumberText_j3⟩, (by kernel_rfl)⟩, (by kernel_rfl)⟩, (by kernel_rfl)⟩, (by kernel_rfl)⟩, (by kernel_rfl)⟩, (by kernel_rfl)⟩, (by kernel_rfl)⟩, (by kernel_rfl)⟩, (by kernel_rfl)⟩, (by kernel_rfl)⟩, (by kernel_rfl)⟩, (by kernel_rfl)⟩, seat_me⟩, seat_lf⟩, seat_mk⟩, (by kernel_rfl)⟩, (by kernel_rfl)⟩, (by kernel_rfl)⟩, (by kernel_rfl)⟩
theorem fnExactNumberText_nm : Tryd.pinned.checked.prog.funcNamed Rows.fnExactNumberTextRow.func = some 3 := by kernel_rfl
theorem fnExactNumberText_rd : ∀ t ∈ Tryd.f3.params.toList, Tryd.prog.readableRec t = true ∧ t < Tryd.prog.types.size := by rw [Tryd.params3]; exact (by decide +kernel)
theorem fnExactNumberText_ok (os : Os) : Input.okWideB Tryd.checked.prog ((World.doorLaid Tryd.prog 400 os).forCall (fun _ _ => 0) ⟨#[], fnExactNumberText_w, []⟩) 3 ⟨#[], fnExactNumberText_w, []⟩ = true := by kernel_rfl
theorem fnExactNumberText_pb (os : Os) (H : Type) (enc : TypeId × Value → H) : Rows.fnExactNumberTextSpec.preB enc Tryd.checked.prog Tryd.f3 [] false ((World.doorLaid Tryd.prog 400 os).forCall (fun _ _ => 0) ⟨#[], fnExactNumberText_w, []⟩).memory fnExactNumberText_w 16 = true := by kernel_rfl
theorem fnExactNumberText_sb (os : Os) (H : Type) (enc : TypeId × Value → H) : Rows.fnExactNumberTextSpec.sizedB enc Tryd.checked.prog Tryd.f3 false ((World.doorLaid Tryd.prog 400 os).forCall (fun _ _ => 0) ⟨#[], fnExactNumberText_w, []⟩).memory fnExactNumberText_w 16 = true := by kernel_rfl
theorem fnExactNumberText_sh (os : Os) : ((World.doorLaid Tryd.prog 400 os).forCall (fun _ _ => 0) ⟨#[], fnExactNumberText_w, []⟩).Shaped Tryd.checked.prog := World.shaped_of_B (by kernel_rfl) (by kernel_rfl)
theorem fnExactNumberText_walk (W : World) (base : Nat) (args : Array Value) (hn : args.size = Tryd.f3.params.size)
    (hv : ∀ (j : Nat) t v, Tryd.f3.params[j]? = some t → args[j]? = some v → Value.okWide Tryd.prog W .any base t v) (hT : TabAt W) :
    Calls Tryd.prog 3 args W fun e W' => e = .returned (.bool true) ∧ Below W.heap.size W W' := by
  rw [Tryd.params3] at hn hv
  obtain ⟨l⟩ := args
  match l, hn with
  | [v0], _ =>
    obtain ⟨x, rfl, hx⟩ := okWide_f32 (hv 0 _ v0 rfl rfl)
    exact lawNt_t x hx W hT
theorem fnExactNumberText_row : Rows.FnExactNumberTextSaid :=
  OpenClaim.holds_of_wide 3 Tryd.f3 rfl rfl rfl rfl rfl rfl rfl ⟨rfl, rfl, rfl, rfl, rfl⟩ rfl rfl rfl rfl rfl fnExactNumberText_nm Tryd.func3 fnExactNumberText_jf
    (of_decide_eq_true (by kernel_rfl)) (by unfold Func.isWrapper; first | (rw [if_pos (by decide +kernel)]; kernel_rfl) | (rw [if_neg (by decide +kernel)]; exact ⟨rfl, rfl⟩))
    (fun os started H enc _ => liftT3 3 Tryd.f3 Rows.fnExactNumberTextSpec Tryd.func3 rfl rfl
      (fun H ds h => match ds, h with | [d0], _ => rfl)
      fnExactNumberText_rd
      fnExactNumberText_walk os started H enc (by kernel_rfl)
      (witnessT3 3 Tryd.f3 Rows.fnExactNumberTextSpec fnExactNumberText_w os H enc (fnExactNumberText_sh os) (fnExactNumberText_ok os) (fnExactNumberText_pb os H enc) (fnExactNumberText_sb os H enc)))

set_option maxRecDepth 100000 in
theorem fnExactNumberText_holds : Rows.FnExactNumberTextCardSaid :=
  Claim7.holds_tied_plain_at .later [] [.data, .data, .data] true Rows.fnExactNumberTextCard.stood.harness Rows.fnExactNumberTextCard.stood.looks
    fnExactNumberText_row (fun _ h => by cases h) (by kernel_rfl) (fun _ h => by cases h) fnExactNumberText_row_tie rfl ⟨rfl, rfl⟩ seat_mi (by kernel_rfl)
    (fun f fn hf hfn => by
      obtain rfl : f = 3 := Option.some.inj ((show Tryd.prog.funcNamed "loop.example/g01288/laws.FnExactNumberText" = some 3 by kernel_rfl).symm.trans hf) |>.symm
      obtain rfl : fn = Tryd.f3 := (Option.some.inj (Tryd.func3.symm.trans hfn)).symm
      refine ⟨by kernel_rfl, fun j t ht => ?_⟩
      have hall : Tryd.f3.params.toList.all (fun t => !Tryd.prog.wantsStandIn t) = true := by kernel_rfl
      have hm : t ∈ Tryd.f3.params.toList := Array.mem_toList_iff.2 (Array.mem_of_getElem? ht)
      have h := List.all_eq_true.1 hall t hm
      simp only [Bool.not_eq_true'] at h
      exact h)
    (by kernel_rfl)
#print axioms fnExactNumberText_holds
end Go.Proofs.YtmgafgkpfeoieaaDoor
