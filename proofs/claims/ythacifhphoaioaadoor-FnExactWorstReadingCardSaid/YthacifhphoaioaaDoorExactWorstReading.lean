/- The law FnExactWorstReading of this commit: for every input the call returns true, and each argument reads afterwards as it read before. Condition: the five sentinel errors are as their initialisers lay them (the card ties them to the program's text). -/
import Derived.Test.YthacifhphoaioaaDoorWorI
import Derived.Test.YthacifhphoaioaaDoorStr
import Derived.Test.YthacifhphoaioaaDoorWitE
import Derived.Test.YthacifhphoaioaaDoorCards
import Derived.Test.YthacifhphoaioaaDoorTie
import Derived.SevenTiedAt
namespace Go.Proofs.YthacifhphoaioaaDoor
open Go Go.ChangeShapes Go.WideShapes Go.ChangeAt Go.RowKit Go.Deep
set_option linter.unusedSimpArgs false
set_option linter.unusedVariables false

theorem wpList_convG {P : Program} {ops : Array Oper} {rest : List Oper} {o : Oper} {a : Act} {w : World} {Q : Exit → Act → World → Prop} (hg : Region.wanted o (yielded ops a.tmps) = true) (src dst : TypeId) (x : Operand)
    (ho : o.op = .convert src dst x) (hs : P.underlying src = some (.float .f32)) (hd : P.underlying dst = some (.float .f64)) (b : Nat) (hx : a.eval x = .float .f32 b)
    (h : ∀ r n, num .f64 r = (num .f32 b).map cv → wpList P ops Q rest (a.put o.dst (.float .f64 r)) (w.drewN n)) : wpList P ops Q (o :: rest) a w :=
  wpList_step fun K hK => by
    rw [if_pos hg]
    obtain ⟨r, n, hr, hrun⟩ := run_conv P w src dst hs hd b
    unfold Oper.wp execOp
    simp only [ho, hx]
    simp only [Sem.run_bind, hrun, Result.andThen]
    exact hK _ _ (h r n hr)
theorem szReadingS_yes (p : Option Addr) (n c l : Nat) (h : n ≤ l) (hl : l ≤ 1048576) (w : World) : Calls Tryd.prog 21 #[.slice p n c, .int .i64 (l : Int)] w fun e w' => e = .returned (.int .i64 ((l : Int) - n)) ∧ w' = w := by
  go_enter Tryd.func21, Tryd.ntmps21
  go_wp2
  go_ret
  exact ⟨rfl, rfl⟩
theorem szReadingS_no (p : Option Addr) (n c l : Nat) (h : l < n) (hl : l ≤ 1048576) (hn : n ≤ maxLen) (w : World) : Calls Tryd.prog 21 #[.slice p n c, .int .i64 (l : Int)] w fun e w' => e = .returned (.int .i64 (-1)) ∧ w' = w := by
  unfold maxLen at hn
  go_enter Tryd.func21, Tryd.ntmps21
  go_wp2
  go_ret
  exact ⟨rfl, rfl⟩

set_option maxRecDepth 100000 in
set_option maxHeartbeats 2000000 in
theorem fnExactWorstReading_far (T S : Nat) (X Y : Int) (R : Nat) (x y : Int) (p : Option Addr) (n c : Nat) (hn : 1048576 < n) (hx : n ≤ maxLen) (w : World) : Calls Tryd.prog 5 #[.agg (Aq T S), .agg (Ste X Y R x y), .slice p n c] w fun e w' => e = .returned (.bool true) ∧ Below w.heap.size w w' := by
  have T := fun V => szReadingS_no p n c 1048576 hn (by omega) hx V
  clear hn hx
  go_enter Tryd.func5, Tryd.ntmps5
  go_wp2_with (go_at_call 21; refine (T _).mono ?_; rintro e V ⟨rfl, hV⟩; rw [hV]; clear hV)
  go_ret
  exact ⟨rfl, ((Below.refl _ _).alloc (Nat.le_refl _) _).alloc (by simp) _⟩

set_option maxRecDepth 100000 in
set_option maxHeartbeats 4000000 in
theorem fnExactWorstReading_near {s : Nat → Addr} (T S : Nat) (X Y : Int) (R : Nat) (x y : Int) (p : Option Addr) (c : Nat) (L : List R2) (hT : T < 4294967296) (hS2 : S < 4294967296) (hX : -128 ≤ X ∧ X ≤ 127) (hY : -128 ≤ Y ∧ Y ≤ 127) (hx : -128 ≤ x ∧ x ≤ 127) (hy : -128 ≤ y ∧ y ≤ 127) (hO : ∀ e ∈ L, -32768 ≤ e.2 ∧ e.2 ≤ 32767) (hn : L.length ≤ 1048576) (w : World) (hp : RsAt w p L) (hS : Sents w s) : Calls Tryd.prog 5 #[.agg (Aq T S), .agg (Ste X Y R x y), .slice p L.length c] w fun e w' => e = .returned (.bool true) ∧ Below w.heap.size w w' := by
  have TZ := fun V => szReadingS_yes p L.length c 1048576 hn (by omega) V
  have e1 : ((1048576 : Nat) : Int) - (L.length : Int) = ((1048576 - L.length : Nat) : Int) := by omega
  simp only [e1] at TZ
  obtain ⟨l, hl⟩ : ∃ l, 1048576 - L.length = l := ⟨_, rfl⟩
  rw [hl] at TZ
  have hl2 : l ≤ 1048576 := by omega
  obtain ⟨o, ho⟩ : ∃ o, worO (askB T S X Y R x y L) L.length (djO T S R X Y x y L (flI (mjO T S R X Y x y L) L.length)) = o := ⟨_, rfl⟩
  obtain ⟨kk, hk⟩ : ∃ kk, codeE (worK (askB T S X Y R x y L) L.length) = kk := ⟨_, rfl⟩
  obtain ⟨ii, hi⟩ : ∃ ii : Int, ((worI (askB T S X Y R x y L) L.length (flI (mjO T S R X Y x y L) L.length) : Nat) : Int) = ii := ⟨_, rfl⟩
  have T3 := Lib.hid (fun (p : Option Addr) (c : Nat) (V : World) (h1 : RsAt V p L) => specWor_any T S X Y R x y p c L hT hS2 hn hX hY hx hy hO V h1)
  have T4 := Lib.hid (fun (p : Option Addr) (c : Nat) (V : World) (h1 : RsAt V p L) (h2 : Sents V s) => implWor_any T S X Y R x y p c L hT hS2 hn hX hY hx hy V h1 h2)
  have TOH := Lib.hid (fun (V : World) (h : RsAt V p L) => toReadingS_any p c L hn V h)
  have TEQ := Lib.hid (fun (p q : Option Addr) (c d : Nat) (V : World) (h1 : RsAt V p L) (h2 : RsAt V q L) => eqReadingS_yes p q c d L hn V h1 h2)
  unfold WorV at T3 T4
  rw [ho, hk, hi] at T3 T4
  obtain ⟨n, hnn⟩ : ∃ n, L.length = n := ⟨_, rfl⟩
  rw [hnn] at T3 T4 TOH TEQ TZ hn ⊢
  obtain ⟨z, b0, b1x, B0⟩ := laid2 w (.cells (Aq T S) 24) (.cells (Ste X Y R x y) 29)
  obtain ⟨W, hW⟩ : ∃ W, (w.alloc (.cells (Aq T S) 24) |>.alloc (.cells (Ste X Y R x y) 29)) = W := ⟨_, rfl⟩
  rw [hW] at z b0 b1x B0
  have R0 := Lib.hid (rangeAt_row b0)
  have R1 := Lib.hid (rangeAt_row b1x)
  have BW := Lib.hid B0
  have hb1 : w.heap.size < W.heap.size := by rw [z]; omega
  have hb2 : w.heap.size + 1 < W.heap.size := by rw [z]; omega
  have HS := Lib.hid hS
  have PA0 := Lib.hid hp
  clear hp e1 hl hS ho hk hi hnn b0 b1x B0 z hO
  go_enter Tryd.func5, Tryd.ntmps5
  go_upto_region 1 with (fail)
  try rw [hW]
  clear hW
  have BX : Below W.heap.size W W.drew := (Below.refl _ _).drew
  go_wp2_with (go_at_call 21; refine (TZ _).mono ?_; rintro e V ⟨rfl, hV⟩; rw [hV]; clear hV)
  refine wp_region_plan (ops' := regOf Tryd.f5 5) (.take 0 (.take 2 (.take 4 (.run 1 (.run 3 (.run 5 (.run 6 (.take 7 (.take 8 (.take 9 (.take 10 (.take 11 (.take 12 (.take 13 .fin)))))))))))))) (Below W.heap.size W) (by kernel_rfl) (by kernel_rfl) (by kernel_rfl) (by kernel_rfl) (by kernel_rfl) BX ?_
  refine plan_load (some 21) 24 (.tmp 3) w.heap.size 0 _ _ (by kernel_rfl) (by kernel_rfl) (by kernel_rfl) (by kernel_rfl) (by kernel_rfl) (fun w' hw' => range_kept R0.out hb1 _ hw') Tryd.underlying24 rfl (by kernel_rfl) ?_
  refine plan_load (some 23) 29 (.tmp 4) (w.heap.size + 1) 0 _ _ (by kernel_rfl) (by kernel_rfl) (by kernel_rfl) (by kernel_rfl) (by kernel_rfl) (fun w' hw' => range_kept R1.out hb2 _ hw') Tryd.underlying29 rfl (by kernel_rfl) ?_
  refine plan_pure (some 25) (.slice p n c) (by kernel_rfl) (by kernel_rfl) (by kernel_rfl) (fun _ => (by kernel_rfl)) ?_
  refine plan_call (some 22) 12 #[.agg (Aq T S)] (by kernel_rfl) (by kernel_rfl) (by kernel_rfl) (by kernel_rfl) (Calls.mono (toAquifer_any T S _) ?_)
  rintro _ Va ⟨rfl, ha⟩
  have BXa := BX.trans (ha.mono BX.size)
  refine ⟨_, rfl, BXa, ?_⟩
  refine plan_call (some 24) 13 #[.agg (Ste X Y R x y)] (by kernel_rfl) (by kernel_rfl) (by kernel_rfl) (by kernel_rfl) (Calls.mono (toSite_any X Y R x y _) ?_)
  rintro _ Vb ⟨rfl, hb⟩
  have BXb := BXa.trans (hb.mono BXa.size)
  refine ⟨_, rfl, BXb, ?_⟩
  refine plan_call (some 26) 23 #[.slice p n c] (by kernel_rfl) (by kernel_rfl) (by kernel_rfl) (by kernel_rfl) (Calls.mono (TOH.out _ (PA0.out.keep (BW.out.trans (BXb.mono BW.out.size)))) ?_)
  rintro _ Vc ⟨b1, rfl, _, _, x1, hc⟩
  have BXc := BXb.trans (hc.mono BXb.size)
  refine ⟨_, rfl, BXc, ?_⟩
  refine plan_call (some 27) 26 #[.agg (Aq T S), .agg (Ste X Y R x y), .slice (some ⟨b1, 0, none⟩) n n] (by kernel_rfl) (by kernel_rfl) (by kernel_rfl) (by kernel_rfl) (Calls.mono (T3.out _ _ _ x1) ?_)
  rintro _ Vd ⟨⟨r1, rfl, hr1⟩, hd⟩
  have BXd := BXc.trans (hd.mono BXc.size)
  refine ⟨_, rfl, BXd, ?_⟩
  refine plan_pure (some 20) (.tuple #[.int .i64 ii, .float .f32 r1, .int .i64 kk]) (by kernel_rfl) (by kernel_rfl) (by kernel_rfl) (fun _ => (by kernel_rfl)) ?_
  refine plan_pure (some 28) (.int .i64 ii) (by kernel_rfl) (by kernel_rfl) (by kernel_rfl) (fun _ => (by kernel_rfl)) ?_
  refine plan_pure (some 29) (.float .f32 r1) (by kernel_rfl) (by kernel_rfl) (by kernel_rfl) (fun _ => (by kernel_rfl)) ?_
  refine plan_pure (some 30) (.int .i64 kk) (by kernel_rfl) (by kernel_rfl) (by kernel_rfl) (fun _ => (by kernel_rfl)) ?_
  refine plan_pure (some 8) (.int .i64 ii) (by kernel_rfl) (by kernel_rfl) (by kernel_rfl) (fun _ => (by kernel_rfl)) ?_
  refine plan_pure (some 9) (.float .f32 r1) (by kernel_rfl) (by kernel_rfl) (by kernel_rfl) (fun _ => (by kernel_rfl)) ?_
  refine plan_pure (some 10) (.int .i64 kk) (by kernel_rfl) (by kernel_rfl) (by kernel_rfl) (fun _ => (by kernel_rfl)) ?_
  refine plan_end (NoPanic.normal ?_)
  have R1N := Lib.hid hr1
  have PD := Lib.hid (PA0.out.keep (BW.out.trans (BXd.mono BW.out.size)))
  have BD := Lib.hid BXd
  clear hr1 BXd BXc BXb BXa BX ha hb hc hd x1
  simp only [Act.put, List.setIfInBounds_toArray, List.set_cons_zero, List.set_cons_succ]
  have t2 : True := trivial
  go_wp2_with (have _t := t2; go_at_call 23; refine (TOH.out _ PD.out).mono ?_; rintro e Ve ⟨b2, rfl, _, _, x1, he⟩; have YA := Lib.hid x1; have BE := Lib.hid (BD.out.trans (he.mono BD.out.size)); clear x1 he t2)
  have BX : Below W.heap.size W Ve.drew := BE.out.drew
  refine wp_region_plan (ops' := regOf Tryd.f5 7) (.take 0 (.take 2 (.take 4 (.run 1 (.run 3 (.run 5 (.take 6 (.take 7 (.take 8 (.take 9 (.take 10 (.take 11 (.take 12 .fin))))))))))))) (Below W.heap.size W) (by kernel_rfl) (by kernel_rfl) (by kernel_rfl) (by kernel_rfl) (by kernel_rfl) BX ?_
  refine plan_load (some 34) 24 (.tmp 3) w.heap.size 0 _ _ (by kernel_rfl) (by kernel_rfl) (by kernel_rfl) (by kernel_rfl) (by kernel_rfl) (fun w' hw' => range_kept R0.out hb1 _ hw') Tryd.underlying24 rfl (by kernel_rfl) ?_
  refine plan_load (some 36) 29 (.tmp 4) (w.heap.size + 1) 0 _ _ (by kernel_rfl) (by kernel_rfl) (by kernel_rfl) (by kernel_rfl) (by kernel_rfl) (fun w' hw' => range_kept R1.out hb2 _ hw') Tryd.underlying29 rfl (by kernel_rfl) ?_
  refine plan_pure (some 38) (.slice (some ⟨b2, 0, none⟩) n n) (by kernel_rfl) (by kernel_rfl) (by kernel_rfl) (fun _ => (by kernel_rfl)) ?_
  refine plan_call (some 35) 12 #[.agg (Aq T S)] (by kernel_rfl) (by kernel_rfl) (by kernel_rfl) (by kernel_rfl) (Calls.mono (toAquifer_any T S _) ?_)
  rintro _ Va ⟨rfl, ha⟩
  have BXa := BX.trans (ha.mono BX.size)
  refine ⟨_, rfl, BXa, ?_⟩
  refine plan_call (some 37) 13 #[.agg (Ste X Y R x y)] (by kernel_rfl) (by kernel_rfl) (by kernel_rfl) (by kernel_rfl) (Calls.mono (toSite_any X Y R x y _) ?_)
  rintro _ Vb ⟨rfl, hb⟩
  have BXb := BXa.trans (hb.mono BXa.size)
  refine ⟨_, rfl, BXb, ?_⟩
  refine plan_call (some 39) 27 #[.agg (Aq T S), .agg (Ste X Y R x y), .slice (some ⟨b2, 0, none⟩) n n] (by kernel_rfl) (by kernel_rfl) (by kernel_rfl) (by kernel_rfl) (Calls.mono (T4.out _ _ _ (YA.out.keep ((Below.refl _ _).drew.trans (ha.trans (hb.mono ha.size)))) (HS.out.keep (BW.out.trans (BXb.mono BW.out.size)))) ?_)
  rintro _ Vd ⟨⟨r2, rfl, hr2⟩, hd⟩
  have BXd := BXb.trans (hd.mono BXb.size)
  refine ⟨_, rfl, BXd, ?_⟩
  refine plan_pure (some 33) (.tuple #[.int .i64 ii, .float .f32 r2, .int .i64 kk]) (by kernel_rfl) (by kernel_rfl) (by kernel_rfl) (fun _ => (by kernel_rfl)) ?_
  refine plan_pure (some 40) (.int .i64 ii) (by kernel_rfl) (by kernel_rfl) (by kernel_rfl) (fun _ => (by kernel_rfl)) ?_
  refine plan_pure (some 41) (.float .f32 r2) (by kernel_rfl) (by kernel_rfl) (by kernel_rfl) (fun _ => (by kernel_rfl)) ?_
  refine plan_pure (some 42) (.int .i64 kk) (by kernel_rfl) (by kernel_rfl) (by kernel_rfl) (fun _ => (by kernel_rfl)) ?_
  refine plan_pure (some 12) (.int .i64 ii) (by kernel_rfl) (by kernel_rfl) (by kernel_rfl) (fun _ => (by kernel_rfl)) ?_
  refine plan_pure (some 13) (.float .f32 r2) (by kernel_rfl) (by kernel_rfl) (by kernel_rfl) (fun _ => (by kernel_rfl)) ?_
  refine plan_pure (some 14) (.int .i64 kk) (by kernel_rfl) (by kernel_rfl) (by kernel_rfl) (fun _ => (by kernel_rfl)) ?_
  refine plan_end (NoPanic.normal ?_)
  have R2N := Lib.hid hr2
  have PE := Lib.hid (PA0.out.keep (BW.out.trans (BXd.mono BW.out.size)))
  have YB := Lib.hid (YA.out.keep ((Below.refl _ _).drew.trans ((ha.trans (hb.mono ha.size)).trans (hd.mono (ha.trans (hb.mono ha.size)).size))))
  have BF := Lib.hid BXd
  clear hr2 BXd BXb BXa BX ha hb hd YA PD
  simp only [Act.put, List.setIfInBounds_toArray, List.set_cons_zero, List.set_cons_succ]
  have t3 : True := trivial
  have t4 : True := trivial
  go_wp2_with (first | (have _t := t3; refine wpList_convG (by kernel_rfl) _ _ _ rfl Tryd.underlying22 Tryd.underlying52 _ rfl ?_; intro x1 m hx1; have XX := Lib.hid hx1; clear t3 hx1) | (refine wpList_convG (by kernel_rfl) _ _ _ rfl Tryd.underlying22 Tryd.underlying52 _ rfl ?_; intro y1 m' hy1; have YY := Lib.hid hy1; clear hy1) | (go_at_call 25; fail))
  refine (sameFloat_yes x1 y1 (by rw [XX.out, YY.out, R1N.out, R2N.out]) _).mono ?_
  rintro e w' ⟨rfl, j, rfl⟩
  have PF := Lib.hid (show ∀ k, RsAt (Vd.drewN k) p L from fun k => PE.out.keep (belowN (Below.refl _ _) k))
  have YC := Lib.hid (show ∀ k, RsAt (Vd.drewN k) (some ⟨b2, 0, none⟩) L from fun k => YB.out.keep (belowN (Below.refl _ _) k))
  have BG := Lib.hid (show ∀ k, Below W.heap.size W (Vd.drewN k) from fun k => belowN BF.out k)
  go_wp2_with (first | (go_at_call 23; refine (TOH.out _ (PF.out _)).mono ?_; rintro e Vg ⟨b3, rfl, _, _, x1, hg⟩; have YD := Lib.hid ((YC.out _).keep hg); have ZA := Lib.hid x1; have BH := Lib.hid ((BG.out _).trans (hg.mono (BG.out _).size)); clear x1 hg) | (go_at_call 16; refine (TEQ.out _ _ _ _ _ YD.out ZA.out).mono ?_; rintro e Vh ⟨rfl, hh⟩; have BI := Lib.hid (BH.out.trans (hh.mono BH.out.size)); clear hh))
  go_ret
  exact ⟨rfl, BW.out.trans (BI.out.mono BW.out.size)⟩

set_option maxRecDepth 100000 in
theorem fnExactWorstReading_walk (H : Type) (enc : TypeId × Value → H) (W : World) (base : Nat) (args : Array Value) (ds : List (DataW H)) (ps : List MemPlace) (hn : args.size = Tryd.f5.params.size)
    (hv : ∀ (j : Nat) t v, Tryd.f5.params[j]? = some t → args[j]? = some v → Value.okWide Tryd.prog W .any base t v)
    (hA : DataW.TrodAll enc Tryd.prog W 0 (fun _ => true) true Tryd.f5.params.toList args.toList ds ps) (s : Nat → Addr) (hS : Sents W s) :
    Calls Tryd.prog 5 args W fun e W' => e = .returned (.bool true) ∧ Below W.heap.size W W' := by
  rw [Tryd.params5] at hn hv hA
  obtain ⟨l⟩ := args
  match l, hn with
  | [v0, v1, v2], _ =>
    obtain ⟨u0, us, d0, ds', a0, a1, he, _, _, h0, h1⟩ := trodAll_cons hA
    cases he
    obtain ⟨u1, us1, d1, ds1, a2, a3, he, _, _, h2, h3⟩ := trodAll_cons h1
    cases he
    obtain ⟨u2, us2, d2, ds2, a4, a5, he, _, _, h4, h5⟩ := trodAll_cons h3
    cases he
    obtain ⟨T, S, rfl, hT, hS2⟩ := okWide_aq (hv 0 _ v0 rfl rfl)
    obtain ⟨X, Y, R, x, y, rfl, hX, hY, _, hx, hy⟩ := okWide_st (hv 1 _ v1 rfl rfl)
    obtain ⟨p, c, L, rfl, hL, hp, hok⟩ := open_rs (okWide_slice Tryd.underlying46 (hv 2 _ v2 rfl rfl)) h4
    have hO : ∀ e ∈ L, -32768 ≤ e.2 ∧ e.2 ≤ 32767 := fun e he => by
      have := (hok e he).2
      simp only [Lit.wf, IntKind.min, IntKind.max, IntKind.bits, IntKind.signed, Bool.and_eq_true, decide_eq_true_eq] at this
      simpa using this
    by_cases h9 : L.length ≤ 1048576
    · exact fnExactWorstReading_near T S X Y R x y p c L hT hS2 hX hY hx hy hO h9 W hp hS
    · exact fnExactWorstReading_far T S X Y R x y p _ c (by omega) hL W

set_option maxRecDepth 100000
theorem fnExactWorstReading_j0 : (Rows.fnExactWorstReadingRow.inPlace == Tryd.prog.inPlace 5) = true := by kernel_rfl
theorem fnExactWorstReading_j1 : (Rows.fnExactWorstReadingRow.unfollowed == Tryd.prog.unfollowed 5) = true := by kernel_rfl
theorem fnExactWorstReading_j2 : (Rows.fnExactWorstReadingRow.recurses == Tryd.prog.recurses 5) = true := by kernel_rfl
theorem fnExactWorstReading_j3 : (Rows.fnExactWorstReadingRow.named == Tryd.prog.varsNamed 5) = true := by kernel_rfl
theorem fnExactWorstReading_jw : Rows.fnExactWorstReadingRow.wf (OpenSpec.ofChange Rows.fnExactWorstReadingSpec) = true := by kernel_rfl
theorem fnExactWorstReading_jn : namedTie Tryd.prog Rows.fnExactWorstReadingRow.named Rows.fnExactWorstReadingSpec.vars = true := by kernel_rfl
theorem fnExactWorstReading_jf : joinedFacts Tryd.prog 5 Tryd.f5 Rows.fnExactWorstReadingSpec Rows.fnExactWorstReadingRow = true := by
  unfold joinedFacts
  simp only [Bool.and_eq_true]
  exact ⟨⟨⟨⟨⟨⟨⟨⟨⟨⟨⟨⟨⟨⟨⟨⟨⟨⟨⟨⟨⟨⟨⟨⟨⟨⟨⟨⟨⟨⟨⟨fnExactWorstReading_jw, (by kernel_rfl)⟩, (by kernel_rfl)⟩, (by kernel_rfl)⟩, fnExactWorstReading_jn⟩, (by kernel_rfl)⟩, (by kernel_rfl)⟩, (by kernel_rfl)⟩, (by kernel_rfl)⟩, fnExactWorstReading_j0⟩, fnExactWorstReading_j1⟩, fnExactWorstReading_j2⟩, fnExactWorstReading_j3⟩, (by kernel_rfl)⟩, (by kernel_rfl)⟩, (by kernel_rfl)⟩, (by kernel_rfl)⟩, (by kernel_rfl)⟩, (by kernel_rfl)⟩, (by kernel_rfl)⟩, (by kernel_rfl)⟩, (by kernel_rfl)⟩, (by kernel_rfl)⟩, (by kernel_rfl)⟩, (by kernel_rfl)⟩, (by kernel_rfl)⟩, (by kernel_rfl)⟩, (by kernel_rfl)⟩, (by kernel_rfl)⟩, (by kernel_rfl)⟩, (by kernel_rfl)⟩, (by kernel_rfl)⟩
theorem fnExactWorstReading_nm : Tryd.pinned.checked.prog.funcNamed Rows.fnExactWorstReadingRow.func = some 5 := by kernel_rfl
theorem fnExactWorstReading_rd : ∀ t ∈ Tryd.f5.params.toList, Tryd.prog.readableRec t = true ∧ t < Tryd.prog.types.size := by rw [Tryd.params5]; exact (by decide +kernel)
theorem fnExactWorstReading_ok (os : Os) : Input.okWideB Tryd.checked.prog ((World.laidAll Tryd.prog os laidE).forCall (fun _ _ => 0) ⟨#[], #[.agg (Aq 0 0), .agg (Ste 0 0 0 0 0), .slice none 0 0], []⟩) 5 ⟨#[], #[.agg (Aq 0 0), .agg (Ste 0 0 0 0 0), .slice none 0 0], []⟩ = true := by kernel_rfl
theorem fnExactWorstReading_pb (os : Os) (H : Type) (enc : TypeId × Value → H) : Rows.fnExactWorstReadingSpec.preB enc Tryd.checked.prog Tryd.f5 [] false ((World.laidAll Tryd.prog os laidE).forCall (fun _ _ => 0) ⟨#[], #[.agg (Aq 0 0), .agg (Ste 0 0 0 0 0), .slice none 0 0], []⟩).memory #[.agg (Aq 0 0), .agg (Ste 0 0 0 0 0), .slice none 0 0] 16 = true := by kernel_rfl
theorem fnExactWorstReading_sb (os : Os) (H : Type) (enc : TypeId × Value → H) : Rows.fnExactWorstReadingSpec.sizedB enc Tryd.checked.prog Tryd.f5 false ((World.laidAll Tryd.prog os laidE).forCall (fun _ _ => 0) ⟨#[], #[.agg (Aq 0 0), .agg (Ste 0 0 0 0 0), .slice none 0 0], []⟩).memory #[.agg (Aq 0 0), .agg (Ste 0 0 0 0 0), .slice none 0 0] 16 = true := by kernel_rfl
theorem fnExactWorstReading_vr : varsRowed Tryd.prog Rows.fnExactWorstReadingSpec.vars = true := by kernel_rfl
theorem fnExactWorstReading_row : Rows.FnExactWorstReadingSaid :=
  OpenClaim.holds_of_wide 5 Tryd.f5 rfl rfl rfl rfl rfl rfl rfl ⟨rfl, rfl, rfl, rfl, rfl⟩ rfl rfl rfl rfl rfl fnExactWorstReading_nm Tryd.func5 fnExactWorstReading_jf
    (of_decide_eq_true (by kernel_rfl)) (by unfold Func.isWrapper; first | (rw [if_pos (by decide +kernel)]; kernel_rfl) | (rw [if_neg (by decide +kernel)]; exact ⟨rfl, rfl⟩))
    (fun os started H enc _ => liftE 5 Tryd.f5 Rows.fnExactWorstReadingSpec Tryd.func5 rfl rfl fnExactWorstReading_vr
      (fun H ds gs h h' => match ds, h, gs, h' with | [d0, d1, d2], _, [g0, g1, g2, g3, g4], _ => rfl)
      fnExactWorstReading_rd
      fnExactWorstReading_walk os started H enc (by kernel_rfl)
      (witnessE 5 Tryd.f5 Rows.fnExactWorstReadingSpec #[.agg (Aq 0 0), .agg (Ste 0 0 0 0 0), .slice none 0 0] os H enc (fnExactWorstReading_ok os) (fnExactWorstReading_pb os H enc) (fnExactWorstReading_sb os H enc)))

set_option maxRecDepth 100000 in
theorem fnExactWorstReading_holds : Rows.FnExactWorstReadingCardSaid :=
  Claim7.holds_tied_plain_at .later [] [.sentinel, .sentinel, .sentinel, .sentinel, .sentinel] true Rows.fnExactWorstReadingCard.stood.harness Rows.fnExactWorstReadingCard.stood.looks
    fnExactWorstReading_row (fun _ h => by cases h) (by kernel_rfl) (fun _ h => by cases h) fnExactWorstReading_row_tie rfl ⟨rfl, rfl⟩ (by kernel_rfl) (by kernel_rfl)
    (fun f fn hf hfn => by
      obtain rfl : f = 5 := Option.some.inj ((show Tryd.prog.funcNamed "loop.example/g01288/laws.FnExactWorstReading" = some 5 by kernel_rfl).symm.trans hf) |>.symm
      obtain rfl : fn = Tryd.f5 := (Option.some.inj (Tryd.func5.symm.trans hfn)).symm
      refine ⟨by kernel_rfl, fun j t ht => ?_⟩
      have hall : Tryd.f5.params.toList.all (fun t => !Tryd.prog.wantsStandIn t) = true := by kernel_rfl
      have hm : t ∈ Tryd.f5.params.toList := Array.mem_toList_iff.2 (Array.mem_of_getElem? ht)
      have h := List.all_eq_true.1 hall t hm
      simp only [Bool.not_eq_true'] at h
      exact h)
    (by kernel_rfl)
#print axioms fnExactWorstReading_holds
end Go.Proofs.YthacifhphoaioaaDoor
