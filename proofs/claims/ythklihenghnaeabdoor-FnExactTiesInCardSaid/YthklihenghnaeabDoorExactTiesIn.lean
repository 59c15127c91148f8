/- The law FnExactTiesIn of this commit: for every input the call returns true, and each argument reads afterwards as it read before. Condition: the five sentinel errors are as their initialisers lay them (the card ties them to the program's text). -/
import Derived.Test.YthklihenghnaeabDoorTies
import Derived.Test.YthklihenghnaeabDoorWitE
import Derived.Test.YthklihenghnaeabDoorCards
import Derived.Test.YthklihenghnaeabDoorTie
import Derived.SevenTiedAt
namespace Go.Proofs.YthklihenghnaeabDoor
open Go Go.ChangeShapes Go.WideShapes Go.ChangeAt Go.RowKit Go.Deep
set_option linter.unusedSimpArgs false
set_option linter.unusedVariables false
theorem szReadingS_yes (p : Option Addr) (n c l : Nat) (h : n ≤ l) (hl : l ≤ 1048576) (w : World) : Calls Tryd.prog 19 #[.slice p n c, .int .i64 (l : Int)] w fun e w' => e = .returned (.int .i64 ((l : Int) - n)) ∧ w' = w := by
  go_enter Tryd.func19, Tryd.ntmps19
  go_wp2
  go_ret
  exact ⟨rfl, rfl⟩
theorem szReadingS_no (p : Option Addr) (n c l : Nat) (h : l < n) (hl : l ≤ 1048576) (hn : n ≤ maxLen) (w : World) : Calls Tryd.prog 19 #[.slice p n c, .int .i64 (l : Int)] w fun e w' => e = .returned (.int .i64 (-1)) ∧ w' = w := by
  unfold maxLen at hn
  go_enter Tryd.func19, Tryd.ntmps19
  go_wp2
  go_ret
  exact ⟨rfl, rfl⟩

set_option maxRecDepth 100000 in
set_option maxHeartbeats 2000000 in
theorem fnExactTiesIn_far (p : Option Addr) (n c : Nat) (hn : 1048576 < n) (hx : n ≤ maxLen) (w : World) : Calls Tryd.prog 4 #[.slice p n c] w fun e w' => e = .returned (.bool true) ∧ Below w.heap.size w w' := by
  have T := fun V => szReadingS_no p n c 1048576 hn (by omega) hx V
  clear hn hx
  go_enter Tryd.func4, Tryd.ntmps4
  go_wp2_with (go_at_call 19; refine (T _).mono ?_; rintro e V ⟨rfl, hV⟩; rw [hV]; clear hV)
  go_ret
  exact ⟨rfl, Below.refl _ _⟩

set_option maxRecDepth 100000 in
set_option maxHeartbeats 4000000 in
theorem fnExactTiesIn_near {s : Nat → Addr} (p : Option Addr) (c : Nat) (L : List R2) (hn : L.length ≤ 1048576) (w : World) (hp : RsAt w p L) (hS : Sents w s) : Calls Tryd.prog 4 #[.slice p L.length c] w fun e w' => e = .returned (.bool true) ∧ Below w.heap.size w w' := by
  have T := fun V => szReadingS_yes p L.length c 1048576 hn (by omega) V
  have e1 : ((1048576 : Nat) : Int) - (L.length : Int) = ((1048576 - L.length : Nat) : Int) := by omega
  simp only [e1] at T
  obtain ⟨l, hl⟩ : ∃ l, 1048576 - L.length = l := ⟨_, rfl⟩
  have hL := Lib.hid hn
  rw [hl] at T
  have hl2 : l ≤ 1048576 := by omega
  obtain ⟨r, hr⟩ : ∃ r, tieV L = r := ⟨_, rfl⟩
  obtain ⟨k, hk⟩ : ∃ k, tieK L = k := ⟨_, rfl⟩
  have T3 := fun (p : Option Addr) (c : Nat) (V : World) (h1 : RsAt V p L) => specTies_any p c L hL.out V h1
  have T4 := fun (p : Option Addr) (c : Nat) (V : World) (h1 : RsAt V p L) (h2 : Sents V s) => implTies_any p c L hL.out V h1 h2
  rw [hr, hk] at T3 T4
  clear hr hk
  have HS := Lib.hid hS
  have PA0 := Lib.hid hp
  have BW0 := Lib.hid (Below.refl w.heap.size w)
  clear hp hn e1 hl hS
  have t1 : True := trivial
  have t2 : True := trivial
  have t3 : True := trivial
  have t4 : True := trivial
  go_enter Tryd.func4, Tryd.ntmps4
  go_wp2_with (first | (go_at_call 19; refine (T _).mono ?_; rintro e V ⟨rfl, hV⟩; rw [hV]; clear hV) | (have _t := t1; go_at_call 21; refine (toReadingS_any p c L hL.out _ PA0.out).mono ?_; rintro e V1 ⟨b1, rfl, _, _, x1, hB1⟩; have PA1 := Lib.hid (PA0.out.keep hB1); have XA := Lib.hid x1; have BW1 := Lib.hid (BW0.out.trans (hB1.mono BW0.out.size)); clear PA0 BW0 x1 hB1 t1) | (go_at_call 20; refine (T3 _ _ _ XA.out).mono ?_; rintro e V2 ⟨rfl, hB2⟩; have PA2 := Lib.hid (PA1.out.keep hB2); have BW2 := Lib.hid (BW1.out.trans (hB2.mono BW1.out.size)); clear PA1 BW1 XA hB2) | (have _t := t2; go_at_call 21; refine (toReadingS_any p c L hL.out _ PA2.out).mono ?_; rintro e V3 ⟨b2, rfl, _, _, x1, hB1⟩; have PA3 := Lib.hid (PA2.out.keep hB1); have YA := Lib.hid x1; have BW3 := Lib.hid (BW2.out.trans (hB1.mono BW2.out.size)); clear PA2 BW2 x1 hB1 t2) | (go_at_call 22; refine (T4 _ _ _ YA.out (HS.out.keep BW3.out)).mono ?_; rintro e V4 ⟨rfl, hB2⟩; have PA4 := Lib.hid (PA3.out.keep hB2); have YB := Lib.hid (YA.out.keep hB2); have BW4 := Lib.hid (BW3.out.trans (hB2.mono BW3.out.size)); clear PA3 BW3 YA hB2) | (have _t := t3; go_at_call 21; refine (toReadingS_any p c L hL.out _ PA4.out).mono ?_; rintro e V5 ⟨b3, rfl, _, _, x1, hB1⟩; have YC := Lib.hid (YB.out.keep hB1); have ZA := Lib.hid x1; have BW5 := Lib.hid (BW4.out.trans (hB1.mono BW4.out.size)); clear PA4 BW4 YB x1 hB1 t3) | (go_at_call 23; refine (eqReadingS_yes _ _ _ _ L hL.out _ YC.out ZA.out).mono ?_; rintro e V6 ⟨rfl, hB2⟩; have BW6 := Lib.hid (BW5.out.trans (hB2.mono BW5.out.size)); clear BW5 YC ZA hB2))
  go_ret
  exact ⟨rfl, BW6.out⟩

set_option maxRecDepth 100000 in
theorem fnExactTiesIn_walk (H : Type) (enc : TypeId × Value → H) (W : World) (base : Nat) (args : Array Value) (ds : List (DataW H)) (ps : List MemPlace) (hn : args.size = Tryd.f4.params.size)
    (hv : ∀ (j : Nat) t v, Tryd.f4.params[j]? = some t → args[j]? = some v → Value.okWide Tryd.prog W .any base t v)
    (hA : DataW.TrodAll enc Tryd.prog W 0 (fun _ => true) true Tryd.f4.params.toList args.toList ds ps) (s : Nat → Addr) (hS : Sents W s) :
    Calls Tryd.prog 4 args W fun e W' => e = .returned (.bool true) ∧ Below W.heap.size W W' := by
  rw [Tryd.params4] at hn hv hA
  obtain ⟨l⟩ := args
  match l, hn with
  | [v0], _ =>
    obtain ⟨u0, us, d0, ds', a0, a1, he, _, _, h0, h1⟩ := trodAll_cons hA
    cases he
    obtain ⟨p, c, L, rfl, hL, hp, _⟩ := open_rs (okWide_slice Tryd.underlying37 (hv 0 _ v0 rfl rfl)) h0
    by_cases h1 : L.length ≤ 1048576
    · exact fnExactTiesIn_near p c L h1 W hp hS
    · exact fnExactTiesIn_far p _ c (by omega) hL W

set_option maxRecDepth 100000
theorem fnExactTiesIn_j0 : (Rows.fnExactTiesInRow.inPlace == Tryd.prog.inPlace 4) = true := by kernel_rfl
theorem fnExactTiesIn_j1 : (Rows.fnExactTiesInRow.unfollowed == Tryd.prog.unfollowed 4) = true := by kernel_rfl
theorem fnExactTiesIn_j2 : (Rows.fnExactTiesInRow.recurses == Tryd.prog.recurses 4) = true := by kernel_rfl
theorem fnExactTiesIn_j3 : (Rows.fnExactTiesInRow.named == Tryd.prog.varsNamed 4) = true := by kernel_rfl
theorem fnExactTiesIn_jw : Rows.fnExactTiesInRow.wf (OpenSpec.ofChange Rows.fnExactTiesInSpec) = true := by kernel_rfl
theorem fnExactTiesIn_jn : namedTie Tryd.prog Rows.fnExactTiesInRow.named Rows.fnExactTiesInSpec.vars = true := by kernel_rfl
theorem fnExactTiesIn_jf : joinedFacts Tryd.prog 4 Tryd.f4 Rows.fnExactTiesInSpec Rows.fnExactTiesInRow = true := by
  unfold joinedFacts
  simp only [Bool.and_eq_true]
  exact ⟨⟨⟨⟨⟨⟨⟨⟨⟨⟨⟨⟨⟨⟨⟨⟨⟨⟨⟨⟨⟨⟨⟨⟨⟨⟨⟨⟨⟨⟨⟨fnExactTiesIn_jw, (by kernel_rfl)⟩, (by kernel_rfl)⟩, (by kernel_rfl)⟩, fnExactTiesIn_jn⟩, (by kernel_rfl)⟩, (by kernel_rfl)⟩, (by kernel_rfl)⟩, (by kernel_rfl)⟩, fnExactTiesIn_j0⟩, fnExactTiesIn_j1⟩, fnExactTiesIn_j2⟩, fnExactTiesIn_j3⟩, (by kernel_rfl)⟩, (by kernel_rfl)⟩, (by kernel_rfl)⟩, (by kernel_rfl)⟩, (by kernel_rfl)⟩, (by kernel_rfl)⟩, (by kernel_rfl)⟩, (by kernel_rfl)⟩, (by kernel_rfl)⟩, (by kernel_rfl)⟩, (by kernel_rfl)⟩, (by kernel_rfl)⟩, (by kernel_rfl)⟩, (by kernel_rfl)⟩, (by kernel_rfl)⟩, (by kernel_rfl)⟩, (by kernel_rfl)⟩, (by kernel_rfl)⟩, (by kernel_rfl)⟩
theorem fnExactTiesIn_nm : Tryd.pinned.checked.prog.funcNamed Rows.fnExactTiesInRow.func = some 4 := by kernel_rfl
theorem fnExactTiesIn_rd : ∀ t ∈ Tryd.f4.params.toList, Tryd.prog.readableRec t = true ∧ t < Tryd.prog.types.size := by rw [Tryd.params4]; exact (by decide +kernel)
theorem fnExactTiesIn_ok (os : Os) : Input.okWideB Tryd.checked.prog ((World.laidAll Tryd.prog os laidE).forCall (fun _ _ => 0) ⟨#[], #[.slice none 0 0], []⟩) 4 ⟨#[], #[.slice none 0 0], []⟩ = true := by kernel_rfl
theorem fnExactTiesIn_pb (os : Os) (H : Type) (enc : TypeId × Value → H) : Rows.fnExactTiesInSpec.preB enc Tryd.checked.prog Tryd.f4 [] false ((World.laidAll Tryd.prog os laidE).forCall (fun _ _ => 0) ⟨#[], #[.slice none 0 0], []⟩).memory #[.slice none 0 0] 16 = true := by kernel_rfl
theorem fnExactTiesIn_sb (os : Os) (H : Type) (enc : TypeId × Value → H) : Rows.fnExactTiesInSpec.sizedB enc Tryd.checked.prog Tryd.f4 false ((World.laidAll Tryd.prog os laidE).forCall (fun _ _ => 0) ⟨#[], #[.slice none 0 0], []⟩).memory #[.slice none 0 0] 16 = true := by kernel_rfl
theorem fnExactTiesIn_vr : varsRowed Tryd.prog Rows.fnExactTiesInSpec.vars = true := by kernel_rfl
theorem fnExactTiesIn_row : Rows.FnExactTiesInSaid :=
  OpenClaim.holds_of_wide 4 Tryd.f4 rfl rfl rfl rfl rfl rfl rfl ⟨rfl, rfl, rfl, rfl, rfl⟩ rfl rfl rfl rfl rfl fnExactTiesIn_nm Tryd.func4 fnExactTiesIn_jf
    (of_decide_eq_true (by kernel_rfl)) (by unfold Func.isWrapper; first | (rw [if_pos (by decide +kernel)]; kernel_rfl) | (rw [if_neg (by decide +kernel)]; exact ⟨rfl, rfl⟩))
    (fun os started H enc _ => liftE 4 Tryd.f4 Rows.fnExactTiesInSpec Tryd.func4 rfl rfl fnExactTiesIn_vr
      (fun H ds gs h h' => match ds, h, gs, h' with | [d0], _, [g0, g1, g2, g3, g4], _ => rfl)
      fnExactTiesIn_rd
      fnExactTiesIn_walk os started H enc (by kernel_rfl)
      (witnessE 4 Tryd.f4 Rows.fnExactTiesInSpec #[.slice none 0 0] os H enc (fnExactTiesIn_ok os) (fnExactTiesIn_pb os H enc) (fnExactTiesIn_sb os H enc)))

set_option maxRecDepth 100000 in
theorem fnExactTiesIn_holds : Rows.FnExactTiesInCardSaid :=
  Claim7.holds_tied_plain_at .later [] [.sentinel, .sentinel, .sentinel, .sentinel, .sentinel] true Rows.fnExactTiesInCard.stood.harness Rows.fnExactTiesInCard.stood.looks
    fnExactTiesIn_row (fun _ h => by cases h) (by kernel_rfl) (fun _ h => by cases h) fnExactTiesIn_row_tie rfl ⟨rfl, rfl⟩ (by kernel_rfl) (by kernel_rfl)
    (fun f fn hf hfn => by
      obtain rfl : f = 4 := Option.some.inj ((show Tryd.prog.funcNamed "loop.example/g01288/laws.FnExactTiesIn" = some 4 by kernel_rfl).symm.trans hf) |>.symm
      obtain rfl : fn = Tryd.f4 := (Option.some.inj (Tryd.func4.symm.trans hfn)).symm
      refine ⟨by kernel_rfl, fun j t ht => ?_⟩
      have hall : Tryd.f4.params.toList.all (fun t => !Tryd.prog.wantsStandIn t) = true := by kernel_rfl
      have hm : t ∈ Tryd.f4.params.toList := Array.mem_toList_iff.2 (Array.mem_of_getElem? ht)
      have h := List.all_eq_true.1 hall t hm
      simp only [Bool.not_eq_true'] at h
      exact h)
    (by kernel_rfl)
#print axioms fnExactTiesIn_holds
end Go.Proofs.YthklihenghnaeabDoor
