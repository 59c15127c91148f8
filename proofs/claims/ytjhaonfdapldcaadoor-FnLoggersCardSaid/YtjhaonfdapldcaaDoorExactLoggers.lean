/- The law FnLoggers of this commit: for every input the call returns true, and each argument reads afterwards as it read before. Condition: the table of math/bits is as its initialiser lays it (the card ties it to the program's text). -/
import Derived.Test.YtjhaonfdapldcaaDoorLawLoggers
import Derived.Test.YtjhaonfdapldcaaDoorByt
import Derived.Test.YtjhaonfdapldcaaDoorLiftTS
import Derived.Test.YtjhaonfdapldcaaDoorSeat
import Derived.Test.YtjhaonfdapldcaaDoorCards
import Derived.Test.YtjhaonfdapldcaaDoorTie
import Derived.SevenTiedAt
namespace Go.Proofs.YtjhaonfdapldcaaDoor
open Go Go.ChangeShapes Go.WideShapes Go.ChangeAt Go.RowKit Go.Deep
set_option linter.unusedSimpArgs false
set_option linter.unusedVariables false

set_option maxRecDepth 100000 in
theorem fnLoggers_walk (H : Type) (enc : TypeId × Value → H) (W : World) (base : Nat) (args : Array Value) (ds : List (DataW H)) (ps : List MemPlace) (hn : args.size = Tryd.f6.params.size)
    (hv : ∀ (j : Nat) t v, Tryd.f6.params[j]? = some t → args[j]? = some v → Value.okWide Tryd.prog W .any base t v)
    (hA : DataW.TrodAll enc Tryd.prog W 0 (fun _ => true) true Tryd.f6.params.toList args.toList ds ps) (hT : TabAt W) :
    Calls Tryd.prog 6 args W fun e W' => e = .returned (.bool true) ∧ Below W.heap.size W W' := by
  rw [Tryd.params6] at hn hv hA
  obtain ⟨l⟩ := args
  match l, hn with
  | [v0, v1], _ =>
    obtain ⟨u0, us, d0, ds', a0, a1, he, _, _, h0, h1⟩ := trodAll_cons hA
    cases he
    obtain ⟨u1, us', d1, ds'', a2, a3, he, _, _, h1, _⟩ := trodAll_cons h1
    cases he
    obtain ⟨p, n, c, rfl, hx, hp⟩ := open_bytesG (okWide_slice Tryd.underlying40 (hv 0 _ v0 rfl rfl)) h0
    obtain ⟨q, m, d, rfl, hy, hq⟩ := open_bytesG (okWide_slice Tryd.underlying40 (hv 1 _ v1 rfl rfl)) h1
    by_cases hl : 3000 < n ∨ 3000 < m
    · exact fnLoggers_far p q n c m d hx hy hl W
    · exact fnLoggers_near p q n c m d hx hy ⟨fun h => hl (.inl h), fun h => hl (.inr h)⟩ W hp hq hT
set_option maxRecDepth 100000
def fnLoggers_w : Array Value := #[.slice none 0 0, .slice none 0 0]
theorem fnLoggers_j0 : (Rows.fnLoggersRow.inPlace == Tryd.prog.inPlace 6) = true := by kernel_rfl
theorem fnLoggers_j1 : (Rows.fnLoggersRow.unfollowed == Tryd.prog.unfollowed 6) = true := by kernel_rfl
theorem fnLoggers_j2 : (Rows.fnLoggersRow.recurses == Tryd.prog.recurses 6) = true := by kernel_rfl
theorem fnLoggers_j3 : (Rows.fnLoggersRow.named == Tryd.prog.varsNamed 6) = true := by kernel_rfl
theorem fnLoggers_jw : Rows.fnLoggersRow.wf (OpenSpec.ofChange Rows.fnLoggersSpec) = true := by kernel_rfl
theorem fnLoggers_jn : namedTie Tryd.prog Rows.fnLoggersRow.named Rows.fnLoggersSpec.vars = true := by kernel_rfl
theorem fnLoggers_jf : joinedFacts Tryd.prog 6 Tryd.f6 Rows.fnLoggersSpec Rows.fnLoggersRow = true := by
  unfold joinedFacts
  simp only [Bool.and_eq_true]
  exact ⟨⟨⟨⟨⟨⟨⟨⟨⟨⟨⟨⟨⟨⟨⟨⟨⟨⟨⟨⟨⟨⟨⟨⟨⟨⟨⟨⟨⟨⟨⟨fnLoggers_jw, laidOut⟩, (by kernel_rfl)⟩, (by kernel_rfl)⟩, fnLoggers_jn⟩, (by kernel_rfl)⟩, (by kernel_rfl)⟩, (by kernel_rfl)⟩, (by kernel_rfl)⟩, fnLoggers_j0⟩, fnLoggers_j1⟩, fnLoggers_j2⟩, fnLoggers_j3⟩, (by kernel_rfl)⟩, (by kernel_rfl)⟩, (by kernel_rfl)⟩, (by kernel_rfl)⟩, (by kernel_rfl)⟩, (by kernel_rfl)⟩, (by kernel_rfl)⟩, (by kernel_rfl)⟩, (by kernel_rfl)⟩, (by kernel_rfl)⟩, (by kernel_rfl)⟩, (by kernel_rfl)⟩, seat_me⟩, seat_lf⟩, seat_mk⟩, (by kernel_rfl)⟩, (by kernel_rfl)⟩, (by kernel_rfl)⟩, (by kernel_rfl)⟩
theorem fnLoggers_nm : Tryd.pinned.checked.prog.funcNamed Rows.fnLoggersRow.func = some 6 := by kernel_rfl
theorem fnLoggers_rd : ∀ t ∈ Tryd.f6.params.toList, Tryd.prog.readableRec t = true ∧ t < Tryd.prog.types.size := by rw [Tryd.params6]; exact (by decide +kernel)
theorem fnLoggers_ok (os : Os) : Input.okWideB Tryd.checked.prog ((World.doorLaid Tryd.prog 400 os).forCall (fun _ _ => 0) ⟨#[], fnLoggers_w, []⟩) 6 ⟨#[], fnLoggers_w, []⟩ = true := by kernel_rfl
theorem fnLoggers_pb (os : Os) (H : Type) (enc : TypeId × Value → H) : Rows.fnLoggersSpec.preB enc Tryd.checked.prog Tryd.f6 [] false ((World.doorLaid Tryd.prog 400 os).forCall (fun _ _ => 0) ⟨#[], fnLoggers_w, []⟩).memory fnLoggers_w 16 = true := by kernel_rfl
theorem fnLoggers_sb (os : Os) (H : Type) (enc : TypeId × Value → H) : Rows.fnLoggersSpec.sizedB enc Tryd.checked.prog Tryd.f6 false ((World.doorLaid Tryd.prog 400 os).forCall (fun _ _ => 0) ⟨#[], fnLoggers_w, []⟩).memory fnLoggers_w 16 = true := by kernel_rfl
theorem fnLoggers_sh (os : Os) : ((World.doorLaid Tryd.prog 400 os).forCall (fun _ _ => 0) ⟨#[], fnLoggers_w, []⟩).Shaped Tryd.checked.prog := World.shaped_of_B (by kernel_rfl) (by kernel_rfl)
theorem fnLoggers_row : Rows.FnLoggersSaid :=
  OpenClaim.holds_of_wide 6 Tryd.f6 rfl rfl rfl rfl rfl rfl rfl ⟨rfl, rfl, rfl, rfl, rfl⟩ rfl rfl rfl rfl rfl fnLoggers_nm Tryd.func6 fnLoggers_jf
    (of_decide_eq_true (by kernel_rfl)) (by unfold Func.isWrapper; first | (rw [if_pos (by decide +kernel)]; kernel_rfl) | (rw [if_neg (by decide +kernel)]; exact ⟨rfl, rfl⟩))
    (fun os started H enc _ => liftTS 6 Tryd.f6 Rows.fnLoggersSpec Tryd.func6 rfl rfl
      (fun H ds h => match ds, h with | [d0, d1], _ => rfl)
      fnLoggers_rd
      fnLoggers_walk os started H enc (by kernel_rfl)
      (witnessT 6 Tryd.f6 Rows.fnLoggersSpec fnLoggers_w os H enc (fnLoggers_sh os) (fnLoggers_ok os) (fnLoggers_pb os H enc) (fnLoggers_sb os H enc)))

set_option maxRecDepth 100000 in
theorem fnLoggers_holds : Rows.FnLoggersCardSaid :=
  Claim7.holds_tied_plain_at .later [] [.data] true Rows.fnLoggersCard.stood.harness Rows.fnLoggersCard.stood.looks
    fnLoggers_row (fun _ h => by cases h) (by kernel_rfl) (fun _ h => by cases h) fnLoggers_row_tie rfl ⟨rfl, rfl⟩ seat_mi (by kernel_rfl)
    (fun f fn hf hfn => by
      obtain rfl : f = 6 := Option.some.inj ((show Tryd.prog.funcNamed "loop.example/g01288/laws.FnLoggers" = some 6 by kernel_rfl).symm.trans hf) |>.symm
      obtain rfl : fn = Tryd.f6 := (Option.some.inj (Tryd.func6.symm.trans hfn)).symm
      refine ⟨by kernel_rfl, fun j t ht => ?_⟩
      have hall : Tryd.f6.params.toList.all (fun t => !Tryd.prog.wantsStandIn t) = true := by kernel_rfl
      have hm : t ∈ Tryd.f6.params.toList := Array.mem_toList_iff.2 (Array.mem_of_getElem? ht)
      have h := List.all_eq_true.1 hall t hm
      simp only [Bool.not_eq_true'] at h
      exact h)
    (by kernel_rfl)
#print axioms fnLoggers_holds
end Go.Proofs.YtjhaonfdapldcaaDoor
