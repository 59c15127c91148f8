/- The law FnExactLineThrough of this commit: for every input the call returns true, and each argument reads afterwards as it read before. Condition: the five sentinel errors are as their initialisers lay them (the card ties them to the program's text). -/
import Derived.Test.YtbiknpfcemfoeaaDoorLinV
import Derived.Test.YtbiknpfcemfoeaaDoorStr
import Derived.Test.YtbiknpfcemfoeaaDoorWitE
import Derived.Test.YtbiknpfcemfoeaaDoorCards
import Derived.Test.YtbiknpfcemfoeaaDoorTie
import Derived.SevenTiedAt
namespace Go.Proofs.YtbiknpfcemfoeaaDoor
open Go Go.ChangeShapes Go.WideShapes Go.ChangeAt Go.RowKit Go.Deep
set_option linter.unusedSimpArgs false
set_option linter.unusedVariables false
theorem wpList_convG {P : Program} {ops : Array Oper} {rest : List Oper} {o : Oper} {a : Act} {w : World} {Q : Exit → Act → World → Prop} (hg : Region.wanted o (yielded ops a.tmps) = true) (src dst : TypeId) (x : Operand)
    (ho : o.op = .convert src dst x) (hs : P.underlying src = some (.float .f32)) (hd : P.underlying dst = some (.float .f64)) (b : Nat) (hx : a.eval x = .float .f32 b)
    (h : ∀ r n, num .f64 r = (num .f32 b).map cv → wpList P ops Q rest (a.put o.dst (.float .f64 r)) (w.drewN n)) : wpList P ops Q (o :: rest) a w :=
  wpList_step fun K hK => by
    rw [if_pos hg]
    obtain ⟨r, n, hr, hrun⟩ := run_conv P w src dst hs hd b
    unfold Oper.wp execOp
    simp only [ho, hx]
    simp only [Sem.run_bind, hrun, Result.andThen]
    exact hK _ _ (h r n hr)
theorem szReadingS_yes (p : Option Addr) (n c l : Nat) (h : n ≤ l) (hl : l ≤ 1048576) (w : World) : Calls Tryd.prog 7 #[.slice p n c, .int .i64 (l : Int)] w fun e w' => e = .returned (.int .i64 ((l : Int) - n)) ∧ w' = w := by
  go_enter Tryd.func7, Tryd.ntmps7
  go_wp2
  go_ret
  exact ⟨rfl, rfl⟩
theorem szReadingS_no (p : Option Addr) (n c l : Nat) (h : l < n) (hl : l ≤ 1048576) (hn : n ≤ maxLen) (w : World) : Calls Tryd.prog 7 #[.slice p n c, .int .i64 (l : Int)] w fun e w' => e = .returned (.int .i64 (-1)) ∧ w' = w := by
  unfold maxLen at hn
  go_enter Tryd.func7, Tryd.ntmps7
  go_wp2
  go_ret
  exact ⟨rfl, rfl⟩

set_option maxRecDepth 100000 in
set_option maxHeartbeats 2000000 in
theorem fnExactLineThrough_far (p : Option Addr) (n c : Nat) (hn : 1048576 < n) (hx : n ≤ maxLen) (w : World) : Calls Tryd.prog 3 #[.slice p n c] w fun e w' => e = .returned (.bool true) ∧ Below w.heap.size w w' := by
  have T := fun V => szReadingS_no p n c 1048576 hn (by omega) hx V
  clear hn hx
  go_enter Tryd.func3, Tryd.ntmps3
  go_wp2_with (go_at_call 7; refine (T _).mono ?_; rintro e V ⟨rfl, hV⟩; rw [hV]; clear hV)
  go_ret
  exact ⟨rfl, Below.refl _ _⟩

set_option maxRecDepth 100000 in
set_option maxHeartbeats 4000000 in
theorem fnExactLineThrough_near {s : Nat → Addr} (p : Option Addr) (c : Nat) (L : List R2) (hn : L.length ≤ 1048576) (w : World) (hp : RsAt w p L) (hS : Sents w s) : Calls Tryd.prog 3 #[.slice p L.length c] w fun e w' => e = .returned (.bool true) ∧ Below w.heap.size w w' := by
  have T := fun V => szReadingS_yes p L.length c 1048576 hn (by omega) V
  have e1 : ((1048576 : Nat) : Int) - (L.length : Int) = ((1048576 - L.length : Nat) : Int) := by omega
  simp only [e1] at T
  obtain ⟨l, hl⟩ : ∃ l, 1048576 - L.length = l := ⟨_, rfl⟩
  rw [hl] at T
  have hl2 : l ≤ 1048576 := by omega
  obtain ⟨kk, hk⟩ : ∃ kk, codeE (linK L) = kk := ⟨_, rfl⟩
  obtain ⟨Q, hQ⟩ : ∃ Q : Nat → Nat → Prop, Q = LinP L := ⟨_, rfl⟩
  have QQ := Lib.hid (show ∀ a b c d, Q a b → Q c d → num .f32 a = num .f32 c ∧ num .f32 b = num .f32 d from fun a b c d h1 h2 => by
    rw [hQ] at h1 h2
    exact ⟨h1.1.trans h2.1.symm, h1.2.trans h2.2.symm⟩)
  have T3 := Lib.hid (fun (p : Option Addr) (c : Nat) (V : World) (h1 : RsAt V p L) => specLin_any p c L hn V h1)
  have T4 := Lib.hid (fun (p : Option Addr) (V : World) (h1 : RsAt V p L) (h2 : Sents V s) => implLin_any (s := s) p L.length L hn (Nat.le_refl _) V h1 h2)
  have TOH := Lib.hid (fun (V : World) (h : RsAt V p L) => toReadingS_any p c L hn V h)
  have TEQ := Lib.hid (fun (p q : Option Addr) (c d : Nat) (V : World) (h1 : RsAt V p L) (h2 : RsAt V q L) => eqReadingS_yes p q c d L hn V h1 h2)
  rw [← hQ, hk] at T3 T4
  obtain ⟨n, hnn'⟩ : ∃ n, L.length = n := ⟨_, rfl⟩
  rw [hnn'] at T3 T4
  rw [hnn'] at TOH TEQ T hn ⊢
  have HS := Lib.hid hS
  have PA0 := Lib.hid hp
  have BW0 := Lib.hid (Below.refl w.heap.size w)
  clear hp e1 hl hS hk hQ hnn'
  have t1 : True := trivial
  have t2 : True := trivial
  go_enter Tryd.func3, Tryd.ntmps3
  go_upto_region 8 with (first | (go_at_call 7; refine (T _).mono ?_; rintro e V ⟨rfl, hV⟩; rw [hV]; clear hV) | (have _t := t1; go_at_call 9; refine (TOH.out _ PA0.out).mono ?_; rintro e V1 ⟨b1, rfl, _, _, x1, hB1⟩; have PA1 := Lib.hid (PA0.out.keep hB1); have XA := Lib.hid x1; have BW1 := Lib.hid (BW0.out.trans (hB1.mono BW0.out.size)); clear PA0 BW0 x1 hB1 t1) | (go_at_call 8; refine (T3.out _ _ _ XA.out).mono ?_; rintro e V2 ⟨⟨r1, r2, rfl, hr⟩, hB2⟩; have R1N := Lib.hid hr; have PA2 := Lib.hid (PA1.out.keep hB2); have BW2 := Lib.hid (BW1.out.trans (hB2.mono BW1.out.size)); clear PA1 BW1 XA hB2 hr) | (have _t := t2; go_at_call 9; refine (TOH.out _ PA2.out).mono ?_; rintro e V3 ⟨b2, rfl, _, _, x1, hB1⟩; have PA3 := Lib.hid (PA2.out.keep hB1); have YA := Lib.hid x1; have BW3 := Lib.hid (BW2.out.trans (hB1.mono BW2.out.size)); clear PA2 BW2 x1 hB1 t2) | (go_at_call 10; refine (T4.out _ _ YA.out (HS.out.keep BW3.out)).mono ?_; rintro e V4 ⟨⟨u1, u2, rfl, hu⟩, hB2⟩; have R2N := Lib.hid hu; have PE := Lib.hid (PA3.out.keep hB2); have XB := Lib.hid (YA.out.keep hB2); have BF := Lib.hid (BW3.out.trans (hB2.mono BW3.out.size)); clear PA3 BW3 YA hB2 hu))
  obtain ⟨n1, n2⟩ := QQ.out u1 u2 r1 r2 R2N.out R1N.out
  have N1 := Lib.hid n1
  have N2 := Lib.hid n2
  clear n1 n2 QQ R1N R2N
  have t3 : True := trivial
  have t4 : True := trivial
  go_wp2_with (first | (have _t := t3; refine wpList_convG (by kernel_rfl) _ _ _ rfl Tryd.underlying24 Tryd.underlying30 _ rfl ?_; intro x1 m1 hx1; have XX := Lib.hid hx1; clear t3 hx1) | (have _t := t4; refine wpList_convG (by kernel_rfl) _ _ _ rfl Tryd.underlying24 Tryd.underlying30 _ rfl ?_; intro y1 m2 hy1; have YY := Lib.hid hy1; clear t4 hy1) | (go_at_call 11; fail))
  refine (sameFloat_yes x1 y1 (by rw [XX.out, YY.out, N1.out]) _).mono ?_
  rintro e w' ⟨rfl, j1, rfl⟩
  have t5 : True := trivial
  have t6 : True := trivial
  go_wp2_with (first | (have _t := t5; refine wpList_convG (by kernel_rfl) _ _ _ rfl Tryd.underlying24 Tryd.underlying30 _ rfl ?_; intro x2 m3 hx2; have XX2 := Lib.hid hx2; clear t5 hx2) | (have _t := t6; refine wpList_convG (by kernel_rfl) _ _ _ rfl Tryd.underlying24 Tryd.underlying30 _ rfl ?_; intro y2 m4 hy2; have YY2 := Lib.hid hy2; clear t6 hy2) | (go_at_call 11; fail))
  refine (sameFloat_yes x2 y2 (by rw [XX2.out, YY2.out, N2.out]) _).mono ?_
  rintro e w' ⟨rfl, j2, rfl⟩
  have D0 : ∀ k, Below V4.heap.size V4 (V4.drewN k) := fun k => belowN (Below.refl _ _) k
  have PF := Lib.hid (show ∀ k, RsAt (V4.drewN k) p L from fun k => PE.out.keep (D0 k))
  have XC := Lib.hid (show ∀ k, RsAt (V4.drewN k) (some ⟨b2, 0, none⟩) L from fun k => XB.out.keep (D0 k))
  have BG := Lib.hid (show ∀ k, Below w.heap.size w (V4.drewN k) from fun k => belowN BF.out k)
  clear D0
  go_wp2_with (first | (go_at_call 9; refine (TOH.out _ (PF.out _)).mono ?_; rintro e Vi ⟨b6, rfl, _, _, x1, hi⟩; have XF := Lib.hid ((XC.out _).keep hi); have ZB := Lib.hid x1; have BJ := Lib.hid ((BG.out _).trans (hi.mono (BG.out _).size)); clear x1 hi) | (go_at_call 12; refine (TEQ.out _ _ _ _ _ XF.out ZB.out).mono ?_; rintro e Vj ⟨rfl, hj⟩; have BK := Lib.hid (BJ.out.trans (hj.mono BJ.out.size)); clear hj))
  go_ret
  exact ⟨rfl, BK.out⟩

set_option maxRecDepth 100000 in
theorem fnExactLineThrough_walk (H : Type) (enc : TypeId × Value → H) (W : World) (base : Nat) (args : Array Value) (ds : List (DataW H)) (ps : List MemPlace) (hn : args.size = Tryd.f3.params.size)
    (hv : ∀ (j : Nat) t v, Tryd.f3.params[j]? = some t → args[j]? = some v → Value.okWide Tryd.prog W .any base t v)
    (hA : DataW.TrodAll enc Tryd.prog W 0 (fun _ => true) true Tryd.f3.params.toList args.toList ds ps) (s : Nat → Addr) (hS : Sents W s) :
    Calls Tryd.prog 3 args W fun e W' => e = .returned (.bool true) ∧ Below W.heap.size W W' := by
  rw [Tryd.params3] at hn hv hA
  obtain ⟨l⟩ := args
  match l, hn with
  | [v0], _ =>
    obtain ⟨u0, us, d0, ds', a0, a1, he, _, _, h0, h1⟩ := trodAll_cons hA
    cases he
    obtain ⟨p, c, L, rfl, hL, hp, _⟩ := open_rs (okWide_slice Tryd.underlying22 (hv 0 _ v0 rfl rfl)) h0
    by_cases h1 : L.length ≤ 1048576
    · exact fnExactLineThrough_near p c L h1 W hp hS
    · exact fnExactLineThrough_far p _ c (by omega) hL W

set_option maxRecDepth 100000
theorem fnExactLineThrough_j0 : (Rows.fnExactLineThroughRow.inPlace == Tryd.prog.inPlace 3) = true := by kernel_rfl
theorem fnExactLineThrough_j1 : (Rows.fnExactLineThroughRow.unfollowed == Tryd.prog.unfollowed 3) = true := by kernel_rfl
theorem fnExactLineThrough_j2 : (Rows.fnExactLineThroughRow.recurses == Tryd.prog.recurses 3) = true := by kernel_rfl
theorem fnExactLineThrough_j3 : (Rows.fnExactLineThroughRow.named == Tryd.prog.varsNamed 3) = true := by kernel_rfl
theorem fnExactLineThrough_jw : Rows.fnExactLineThroughRow.wf (OpenSpec.ofChange Rows.fnExactLineThroughSpec) = true := by kernel_rfl
theorem fnExactLineThrough_jn : namedTie Tryd.prog Rows.fnExactLineThroughRow.named Rows.fnExactLineThroughSpec.vars = true := by kernel_rfl
theorem fnExactLineThrough_jf : joinedFacts Tryd.prog 3 Tryd.f3 Rows.fnExactLineThroughSpec Rows.fnExactLineThroughRow = true := by
  unfold joinedFacts
  simp only [Bool.and_eq_true]
  exact ⟨⟨⟨⟨⟨⟨⟨⟨⟨⟨⟨⟨⟨⟨⟨⟨⟨⟨⟨⟨⟨⟨⟨⟨⟨⟨⟨⟨⟨⟨⟨fnExactLineThrough_jw, (by kernel_rfl)⟩, (by kernel_rfl)⟩, (by kernel_rfl)⟩, fnExactLineThrough_jn⟩, (by kernel_rfl)⟩, (by kernel_rfl)⟩, (by kernel_rfl)⟩, (by kernel_rfl)⟩, fnExactLineThrough_j0⟩, fnExactLineThrough_j1⟩, fnExactLineThrough_j2⟩, fnExactLineThrough_j3⟩, (by kernel_rfl)⟩, (by kernel_rfl)⟩, (by kernel_rfl)⟩, (by kernel_rfl)⟩, (by kernel_rfl)⟩, (by kernel_rfl)⟩, (by kernel_rfl)⟩, (by kernel_rfl)⟩, (by kernel_rfl)⟩, (by kernel_rfl)⟩, (by kernel_rfl)⟩, (by kernel_rfl)⟩, (by kernel_rfl)⟩, (by kernel_rfl)⟩, (by kernel_rfl)⟩, (by kernel_rfl)⟩, (by kernel_rfl)⟩, (by kernel_rfl)⟩, (by kernel_rfl)⟩
theorem fnExactLineThrough_nm : Tryd.pinned.checked.prog.funcNamed Rows.fnExactLineThroughRow.func = some 3 := by kernel_rfl
theorem fnExactLineThrough_rd : ∀ t ∈ Tryd.f3.params.toList, Tryd.prog.readableRec t = true ∧ t < Tryd.prog.types.size := by rw [Tryd.params3]; exact (by decide +kernel)
theorem fnExactLineThrough_ok (os : Os) : Input.okWideB Tryd.checked.prog ((World.laidAll Tryd.prog os laidE).forCall (fun _ _ => 0) ⟨#[], #[.slice none 0 0], []⟩) 3 ⟨#[], #[.slice none 0 0], []⟩ = true := by kernel_rfl
theorem fnExactLineThrough_pb (os : Os) (H : Type) (enc : TypeId × Value → H) : Rows.fnExactLineThroughSpec.preB enc Tryd.checked.prog Tryd.f3 [] false ((World.laidAll Tryd.prog os laidE).forCall (fun _ _ => 0) ⟨#[], #[.slice none 0 0], []⟩).memory #[.slice none 0 0] 16 = true := by kernel_rfl
theorem fnExactLineThrough_sb (os : Os) (H : Type) (enc : TypeId × Value → H) : Rows.fnExactLineThroughSpec.sizedB enc Tryd.checked.prog Tryd.f3 false ((World.laidAll Tryd.prog os laidE).forCall (fun _ _ => 0) ⟨#[], #[.slice none 0 0], []⟩).memory #[.slice none 0 0] 16 = true := by kernel_rfl
theorem fnExactLineThrough_vr : varsRowed Tryd.prog Rows.fnExactLineThroughSpec.vars = true := by kernel_rfl
theorem fnExactLineThrough_row : Rows.FnExactLineThroughSaid :=
  OpenClaim.holds_of_wide 3 Tryd.f3 rfl rfl rfl rfl rfl rfl rfl ⟨rfl, rfl, rfl, rfl, rfl⟩ rfl rfl rfl rfl rfl fnExactLineThrough_nm Tryd.func3 fnExactLineThrough_jf
    (of_decide_eq_true (by kernel_rfl)) (by unfold Func.isWrapper; first | (rw [if_pos (by decide +kernel)]; kernel_rfl) | (rw [if_neg (by decide +kernel)]; exact ⟨rfl, rfl⟩))
    (fun os started H enc _ => liftE 3 Tryd.f3 Rows.fnExactLineThroughSpec Tryd.func3 rfl rfl fnExactLineThrough_vr
      (fun H ds gs h h' => match ds, h, gs, h' with | [d0], _, [g0, g1, g2, g3, g4], _ => rfl)
      fnExactLineThrough_rd
      fnExactLineThrough_walk os started H enc (by kernel_rfl)
      (witnessE 3 Tryd.f3 Rows.fnExactLineThroughSpec #[.slice none 0 0] os H enc (fnExactLineThrough_ok os) (fnExactLineThrough_pb os H enc) (fnExactLineThrough_sb os H enc)))

set_option maxRecDepth 100000 in
theorem fnExactLineThrough_holds : Rows.FnExactLineThroughCardSaid :=
  Claim7.holds_tied_plain_at .later [] [.sentinel, .sentinel, .sentinel, .sentinel, .sentinel] true Rows.fnExactLineThroughCard.stood.harness Rows.fnExactLineThroughCard.stood.looks
    fnExactLineThrough_row (fun _ h => by cases h) (by kernel_rfl) (fun _ h => by cases h) fnExactLineThrough_row_tie rfl ⟨rfl, rfl⟩ (by kernel_rfl) (by kernel_rfl)
    (fun f fn hf hfn => by
      obtain rfl : f = 3 := Option.some.inj ((show Tryd.prog.funcNamed "loop.example/g01288/laws.FnExactLineThrough" = some 3 by kernel_rfl).symm.trans hf) |>.symm
      obtain rfl : fn = Tryd.f3 := (Option.some.inj (Tryd.func3.symm.trans hfn)).symm
      refine ⟨by kernel_rfl, fun j t ht => ?_⟩
      have hall : Tryd.f3.params.toList.all (fun t => !Tryd.prog.wantsStandIn t) = true := by kernel_rfl
      have hm : t ∈ Tryd.f3.params.toList := Array.mem_toList_iff.2 (Array.mem_of_getElem? ht)
      have h := List.all_eq_true.1 hall t hm
      simp only [Bool.not_eq_true'] at h
      exact h)
    (by kernel_rfl)
#print axioms fnExactLineThrough_holds
end Go.Proofs.YtbiknpfcemfoeaaDoor
