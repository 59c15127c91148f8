/- The law FnExactReadNumber of this commit: for every input the call returns true, and each argument reads afterwards as it read before. Condition: the table of math/bits is as its initialiser lays it (the card ties it to the program's text). -/
import Derived.Test.YtafiiliglbepjaaDoorRnl
import Derived.Test.YtafiiliglbepjaaDoorLift5
import Derived.Test.YtafiiliglbepjaaDoorSeat
import Derived.Test.YtafiiliglbepjaaDoorCards
import Derived.Test.YtafiiliglbepjaaDoorTie
import Derived.SevenTiedAt
namespace Go.Proofs.YtafiiliglbepjaaDoor
open Go.ChangeShapes Go.WideShapes Go.ChangeAt Go.RowKit

set_option maxRecDepth 100000
def fnExactReadNumber_w : Array Value := #[.string ⟨#[]⟩]
theorem fnExactReadNumber_j0 : (Rows.fnExactReadNumberRow.inPlace == Tryd.prog.inPlace 3) = true := by kernel_rfl
theorem fnExactReadNumber_j1 : (Rows.fnExactReadNumberRow.unfollowed == Tryd.prog.unfollowed 3) = true := by kernel_rfl
theorem fnExactReadNumber_j2 : (Rows.fnExactReadNumberRow.recurses == Tryd.prog.recurses 3) = true := by kernel_rfl
theorem fnExactReadNumber_j3 : (Rows.fnExactReadNumberRow.named == Tryd.prog.varsNamed 3) = true := by kernel_rfl
theorem fnExactReadNumber_jw : Rows.fnExactReadNumberRow.wf (OpenSpec.ofChange Rows.fnExactReadNumberSpec) = true := by kernel_rfl
theorem fnExactReadNumber_jn : namedTie Tryd.prog Rows.fnExactReadNumberRow.named Rows.fnExactReadNumberSpec.vars = true := by kernel_rfl
theorem fnExactReadNumber_jf : joinedFacts Tryd.prog 3 Tryd.f3 Rows.fnExactReadNumberSpec Rows.fnExactReadNumberRow = true := by
  unfold joinedFacts
  simp only [Bool.and_eq_true]
  exact ⟨⟨⟨⟨⟨⟨⟨⟨⟨⟨⟨⟨⟨⟨⟨⟨⟨⟨⟨⟨⟨⟨⟨⟨⟨⟨⟨⟨⟨⟨⟨fnExactReadNumber_jw, laidOut⟩, (by kernel_rfl)⟩, (by kernel_rfl)⟩, fnExactReadNumber_jn⟩, (by kernel_rfl)⟩, (by kernel_rfl)⟩, (by kernel_rfl)⟩, (by kernel_rfl)⟩, fnExactReadNumber_j0⟩, fnExactReadNumber_j1⟩, fnExactReadNumber_j2⟩, fnExactReadNumber_j3⟩, (by kernel_rfl)⟩, (by kernel_rfl)⟩, (by kernel_rfl)⟩, (by kernel_rfl)⟩, (by kernel_rfl)⟩, (by kernel_rfl)⟩, (by kernel_rfl)⟩, (by kernel_rfl)⟩, (by kernel_rfl)⟩, (by kernel_rfl)⟩, (by kernel_rfl)⟩, (by kernel_rfl)⟩, seat_me⟩, seat_lf⟩, seat_mk⟩, (by kernel_rfl)⟩, (by kernel_rfl)⟩, (by kernel_rfl)⟩, (by kernel_rfl)⟩
theorem fnExactReadNumber_nm : Tryd.pinned.checked.prog.funcNamed Rows.fnExactReadNumberRow.func = some 3 := by kernel_rfl
theorem fnExactReadNumber_rd : ∀ t ∈ Tryd.f3.params.toList, Tryd.prog.readableRec t = true ∧ t < Tryd.prog.types.size := by rw [Tryd.params3]; exact (by decide +kernel)
theorem fnExactReadNumber_ok (os : Os) : Input.okWideB Tryd.checked.prog ((World.doorLaid Tryd.prog 400 os).forCall (fun _ _ => 0) ⟨#[], fnExactReadNumber_w, []⟩) 3 ⟨#[], fnExactReadNumber_w, []⟩ = true := by kernel_rfl
theorem fnExactReadNumber_pb (os : Os) (H : Type) (enc : TypeId × Value → H) : Rows.fnExactReadNumberSpec.preB enc Tryd.checked.prog Tryd.f3 [] false ((World.doorLaid Tryd.prog 400 os).forCall (fun _ _ => 0) ⟨#[], fnExactReadNumber_w, []⟩).memory fnExactReadNumber_w 16 = true := by kernel_rfl
theorem fnExactReadNumber_sb (os : Os) (H : Type) (enc : TypeId × Value → H) : Rows.fnExactReadNumberSpec.sizedB enc Tryd.checked.prog Tryd.f3 false ((World.doorLaid Tryd.prog 400 os).forCall (fun _ _ => 0) ⟨#[], fnExactReadNumber_w, []⟩).memory fnExactReadNumber_w 16 = true := by kernel_rfl
theorem fnExactReadNumber_sh (os : Os) : ((World.doorLaid Tryd.prog 400 os).forCall (fun _ _ => 0) ⟨#[], fnExactReadNumber_w, []⟩).Shaped Tryd.checked.prog := World.shaped_of_B (by kernel_rfl) (by kernel_rfl)
theorem okWide_strR {W : World} {r : Reach} {base : Nat} {v : Value} (h : Value.okWide Tryd.prog W r base 9 v) : ∃ s, v = .string s := by
  simp only [Value.okWide, Tryd.underlying9, Cell.okWide] at h
  cases v <;> simp_all [Cell.ok]
theorem fnExactReadNumber_walk (W : World) (base : Nat) (args : Array Value) (hn : args.size = Tryd.f3.params.size)
    (hv : ∀ (j : Nat) t v, Tryd.f3.params[j]? = some t → args[j]? = some v → Value.okWide Tryd.prog W .any base t v) (hT : TabAt W) (hE : ErS W) :
    Calls Tryd.prog 3 args W fun e W' => e = .returned (.bool true) ∧ Below W.heap.size W W' := by
  rw [Tryd.params3] at hn hv
  obtain ⟨l⟩ := args
  match l, hn with
  | [v0], _ =>
    obtain ⟨s, rfl⟩ := okWide_strR (hv 0 _ v0 rfl rfl)
    exact lawRn_t s W hE hT
theorem fnExactReadNumber_row : Rows.FnExactReadNumberSaid :=
  OpenClaim.holds_of_wide 3 Tryd.f3 rfl rfl rfl rfl rfl rfl rfl ⟨rfl, rfl, rfl, rfl, rfl⟩ rfl rfl rfl rfl rfl fnExactReadNumber_nm Tryd.func3 fnExactReadNumber_jf
    (of_decide_eq_true (by kernel_rfl)) (by unfold Func.isWrapper; first | (rw [if_pos (by decide +kernel)]; kernel_rfl) | (rw [if_neg (by decide +kernel)]; exact ⟨rfl, rfl⟩))
    (fun os started H enc _ => liftT5 3 Tryd.f3 Rows.fnExactReadNumberSpec Tryd.func3 rfl rfl
      (fun H ds h => match ds, h with | [d0], _ => rfl)
      fnExactReadNumber_rd
      fnExactReadNumber_walk os started H enc (by kernel_rfl)
      (witnessT5 3 Tryd.f3 Rows.fnExactReadNumberSpec fnExactReadNumber_w os H enc (fnExactReadNumber_sh os) (fnExactReadNumber_ok os) (fnExactReadNumber_pb os H enc) (fnExactReadNumber_sb os H enc)))

set_option maxRecDepth 100000 in
theorem fnExactReadNumber_holds : Rows.FnExactReadNumberCardSaid :=
  Claim7.holds_tied_plain_at .later [] [.data, .data, .data, .sentinel, .sentinel] true Rows.fnExactReadNumberCard.stood.harness Rows.fnExactReadNumberCard.stood.looks
    fnExactReadNumber_row (fun _ h => by cases h) (by kernel_rfl) (fun _ h => by cases h) fnExactReadNumber_row_tie rfl ⟨rfl, rfl⟩ seat_mi (by kernel_rfl)
    (fun f fn hf hfn => by
      obtain rfl : f = 3 := Option.some.inj ((show Tryd.prog.funcNamed "loop.example/g01288/laws.FnExactReadNumber" = some 3 by kernel_rfl).symm.trans hf) |>.symm
      obtain rfl : fn = Tryd.f3 := (Option.some.inj (Tryd.func3.symm.trans hfn)).symm
      refine ⟨by kernel_rfl, fun j t ht => ?_⟩
      have hall : Tryd.f3.params.toList.all (fun t => !Tryd.prog.wantsStandIn t) = true := by kernel_rfl
      have hm : t ∈ Tryd.f3.params.toList := Array.mem_toList_iff.2 (Array.mem_of_getElem? ht)
      have h := List.all_eq_true.1 hall t hm
      simp only [Bool.not_eq_true'] at h
      exact h)
    (by kernel_rfl)
#print axioms fnExactReadNumber_holds
end Go.Proofs.YtafiiliglbepjaaDoor
