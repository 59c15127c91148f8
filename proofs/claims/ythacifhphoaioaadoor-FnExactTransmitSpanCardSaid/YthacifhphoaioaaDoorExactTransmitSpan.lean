/- The law FnExactTransmitSpan of this commit: for every input the call returns true, and each argument reads afterwards as it read before. Condition: the five sentinel errors are as their initialisers lay them (the card ties them to the program's text). -/
import Derived.Test.YthacifhphoaioaaDoorTsI
import Derived.Test.YthacifhphoaioaaDoorStr
import Derived.Test.YthacifhphoaioaaDoorWitE
import Derived.Test.YthacifhphoaioaaDoorCards
import Derived.Test.YthacifhphoaioaaDoorTie
import Derived.SevenTiedAt
namespace Go.Proofs.YthacifhphoaioaaDoor
open Go Go.ChangeShapes Go.WideShapes Go.ChangeAt Go.RowKit Go.Deep
set_option linter.unusedSimpArgs false
set_option linter.unusedVariables false

theorem wpList_convG {P : Program} {ops : Array Oper} {rest : List Oper} {o : Oper} {a : Act} {w : World} {Q : Exit → Act → World → Prop} (hg : Region.wanted o (yielded ops a.tmps) = true) (src dst : TypeId) (x : Operand)
    (ho : o.op = .convert src dst x) (hs : P.underlying src = some (.float .f32)) (hd : P.underlying dst = some (.float .f64)) (b : Nat) (hx : a.eval x = .float .f32 b)
    (h : ∀ r n, num .f64 r = (num .f32 b).map cv → wpList P ops Q rest (a.put o.dst (.float .f64 r)) (w.drewN n)) : wpList P ops Q (o :: rest) a w :=
  wpList_step fun K hK => by
    rw [if_pos hg]
    obtain ⟨r, n, hr, hrun⟩ := run_conv P w src dst hs hd b
    unfold Oper.wp execOp
    simp only [ho, hx]
    simp only [Sem.run_bind, hrun, Result.andThen]
    exact hK _ _ (h r n hr)
theorem szReadingS_yes (p : Option Addr) (n c l : Nat) (h : n ≤ l) (hl : l ≤ 1048576) (w : World) : Calls Tryd.prog 21 #[.slice p n c, .int .i64 (l : Int)] w fun e w' => e = .returned (.int .i64 ((l : Int) - n)) ∧ w' = w := by
  go_enter Tryd.func21, Tryd.ntmps21
  go_wp2
  go_ret
  exact ⟨rfl, rfl⟩
theorem szReadingS_no (p : Option Addr) (n c l : Nat) (h : l < n) (hl : l ≤ 1048576) (hn : n ≤ maxLen) (w : World) : Calls Tryd.prog 21 #[.slice p n c, .int .i64 (l : Int)] w fun e w' => e = .returned (.int .i64 (-1)) ∧ w' = w := by
  unfold maxLen at hn
  go_enter Tryd.func21, Tryd.ntmps21
  go_wp2
  go_ret
  exact ⟨rfl, rfl⟩

theorem szAquiferS_yes (p : Option Addr) (n c l : Nat) (h : n ≤ l) (hl : l ≤ 1048576) (w : World) : Calls Tryd.prog 28 #[.slice p n c, .int .i64 (l : Int)] w fun e w' => e = .returned (.int .i64 ((l : Int) - n)) ∧ w' = w := by
  go_enter Tryd.func28, Tryd.ntmps28
  go_wp2
  go_ret
  exact ⟨rfl, rfl⟩
theorem szAquiferS_no (p : Option Addr) (n c l : Nat) (h : l < n) (hl : l ≤ 1048576) (hn : n ≤ maxLen) (w : World) : Calls Tryd.prog 28 #[.slice p n c, .int .i64 (l : Int)] w fun e w' => e = .returned (.int .i64 (-1)) ∧ w' = w := by
  unfold maxLen at hn
  go_enter Tryd.func28, Tryd.ntmps28
  go_wp2
  go_ret
  exact ⟨rfl, rfl⟩

set_option maxRecDepth 100000 in
set_option maxHeartbeats 2000000 in
theorem fnExactTransmitSpan_farG (pg : Option Addr) (m cg : Nat) (X Y : Int) (R : Nat) (x y : Int) (v v' : Value) (hn : 1048576 < m) (hx : m ≤ maxLen) (w : World) : Calls Tryd.prog 9 #[.slice pg m cg, .agg (Ste X Y R x y), v, v'] w fun e w' => e = .returned (.bool true) ∧ Below w.heap.size w w' := by
  have T := fun V => szAquiferS_no pg m cg 1048576 hn (by omega) hx V
  clear hn hx
  go_enter Tryd.func9, Tryd.ntmps9
  go_wp2_with (go_at_call 28; refine (T _).mono ?_; rintro e V ⟨rfl, hV⟩; rw [hV]; clear hV)
  go_ret
  exact ⟨rfl, (Below.refl _ _).alloc (Nat.le_refl _) _⟩
set_option maxRecDepth 100000 in
set_option maxHeartbeats 2000000 in
theorem fnExactTransmitSpan_farL (pg : Option Addr) (m cg : Nat) (X Y : Int) (R : Nat) (x y : Int) (p : Option Addr) (n c : Nat) (bd : Nat) (hm : m ≤ 1048576) (hn : 1048576 - m < n) (hx : n ≤ maxLen) (w : World) : Calls Tryd.prog 9 #[.slice pg m cg, .agg (Ste X Y R x y), .slice p n c, .float .f32 bd] w fun e w' => e = .returned (.bool true) ∧ Below w.heap.size w w' := by
  have T := fun V => szAquiferS_yes pg m cg 1048576 hm (by omega) V
  have T' := fun V => szReadingS_no p n c (1048576 - m) hn (by omega) hx V
  have e1 : ((1048576 : Nat) : Int) - (m : Int) = ((1048576 - m : Nat) : Int) := by omega
  simp only [e1] at T
  obtain ⟨l, hl⟩ : ∃ l, 1048576 - m = l := ⟨_, rfl⟩
  rw [hl] at T T'
  have hl2 : l ≤ 1048576 := by omega
  clear hn hx hm hl e1
  go_enter Tryd.func9, Tryd.ntmps9
  go_wp2_with (first | (go_at_call 28; refine (T _).mono ?_; rintro e V ⟨rfl, hV⟩; rw [hV]; clear hV) | (go_at_call 21; refine (T' _).mono ?_; rintro e V ⟨rfl, hV⟩; rw [hV]; clear hV))
  go_ret
  exact ⟨rfl, (Below.refl _ _).alloc (Nat.le_refl _) _⟩

set_option maxRecDepth 100000 in
set_option maxHeartbeats 4000000 in
theorem fnExactTransmitSpan_near {s : Nat → Addr} (pg : Option Addr) (cg : Nat) (G : List A2) (X Y : Int) (R : Nat) (x y : Int) (p : Option Addr) (c : Nat) (L : List R2) (bd : Nat) (hX : -128 ≤ X ∧ X ≤ 127) (hY : -128 ≤ Y ∧ Y ≤ 127) (hx : -128 ≤ x ∧ x ≤ 127) (hy : -128 ≤ y ∧ y ≤ 127) (hok : ∀ a ∈ G, okA a) (hO : ∀ e ∈ L, -32768 ≤ e.2 ∧ e.2 ≤ 32767) (hm : G.length ≤ 1048576) (hnn : L.length ≤ 1048576 - G.length) (w : World) (hg : AsAt w pg G) (hp : RsAt w p L) (hS : Sents w s) : Calls Tryd.prog 9 #[.slice pg G.length cg, .agg (Ste X Y R x y), .slice p L.length c, .float .f32 bd] w fun e w' => e = .returned (.bool true) ∧ Below w.heap.size w w' := by
  have hn : L.length ≤ 1048576 := by omega
  have TG := fun V => szAquiferS_yes pg G.length cg 1048576 hm (by omega) V
  have TZ := fun V => szReadingS_yes p L.length c (1048576 - G.length) hnn (by omega) V
  have e1 : ((1048576 : Nat) : Int) - (G.length : Int) = ((1048576 - G.length : Nat) : Int) := by omega
  have e2 : ((1048576 - G.length : Nat) : Int) - (L.length : Int) = ((1048576 - G.length - L.length : Nat) : Int) := by omega
  simp only [e1] at TG
  simp only [e2] at TZ
  obtain ⟨l, hl⟩ : ∃ l, 1048576 - G.length = l := ⟨_, rfl⟩
  rw [hl] at TG TZ
  obtain ⟨l', hl'⟩ : ∃ l', l - L.length = l' := ⟨_, rfl⟩
  rw [hl'] at TZ
  have hl2 : l ≤ 1048576 := by omega
  have hl3 : l' ≤ 1048576 := by omega
  obtain ⟨kk, hk⟩ : ∃ kk, codeE (tsK (gueK (gueB G X Y R x y L) G.length) (ftL G R X Y x y L bd (gueK (gueB G X Y R x y L) G.length))) = kk := ⟨_, rfl⟩
  obtain ⟨Q, hQ⟩ : ∃ Q : Nat → Nat → Prop, Q = TsP G (gueK (gueB G X Y R x y L) G.length) (ftL G R X Y x y L bd (gueK (gueB G X Y R x y L) G.length)) := ⟨_, rfl⟩
  have QQ := Lib.hid (show ∀ a b c d, Q a b → Q c d → num .f32 a = num .f32 c ∧ num .f32 b = num .f32 d from fun a b c d h1 h2 => by
    rw [hQ] at h1 h2
    exact ⟨h1.1.trans h2.1.symm, h1.2.trans h2.2.symm⟩)
  have T3 := Lib.hid (fun (pg : Option Addr) (cg : Nat) (p : Option Addr) (c : Nat) (V : World) (h0 : AsAt V pg G) (h1 : RsAt V p L) => specTS_any pg cg G hm X Y R x y p c L hn hX hY hx hy bd hok hO V h0 h1)
  have T4 := Lib.hid (fun (pg : Option Addr) (cg : Nat) (p : Option Addr) (c : Nat) (V : World) (h0 : AsAt V pg G) (h1 : RsAt V p L) (h2 : Sents V s) => implTS_any pg cg G hm X Y R x y p c L hn hX hY hx hy bd hok V h0 h1 h2)
  have TOH := Lib.hid (fun (V : World) (h : RsAt V p L) => toReadingS_any p c L hn V h)
  have TEQ := Lib.hid (fun (p q : Option Addr) (c d : Nat) (V : World) (h1 : RsAt V p L) (h2 : RsAt V q L) => eqReadingS_yes p q c d L hn V h1 h2)
  have TAH := Lib.hid (fun (V : World) (h : AsAt V pg G) => toAquiferS_any pg cg G hm V h)
  have TEA := Lib.hid (fun (p q : Option Addr) (c d : Nat) (V : World) (h1 : AsAt V p G) (h2 : AsAt V q G) => eqAquiferS_yes p q c d G hm V h1 h2)
  rw [← hQ, hk] at T3 T4
  obtain ⟨m, hmm⟩ : ∃ m, G.length = m := ⟨_, rfl⟩
  obtain ⟨n, hnn'⟩ : ∃ n, L.length = n := ⟨_, rfl⟩
  rw [hmm, hnn'] at T3 T4
  rw [hnn'] at TOH TEQ TZ hn ⊢
  rw [hmm] at TAH TEA TG hm ⊢
  obtain ⟨z, b0⟩ := laid1 w (.cells (Ste X Y R x y) 29)
  have B0 : Below w.heap.size w (w.alloc (.cells (Ste X Y R x y) 29)) := (Below.refl _ _).alloc (Nat.le_refl _) _
  obtain ⟨W, hW⟩ : ∃ W, (w.alloc (.cells (Ste X Y R x y) 29)) = W := ⟨_, rfl⟩
  rw [hW] at z b0 B0
  have R0 := Lib.hid (rangeAt_row b0)
  have BW := Lib.hid B0
  have hb1 : w.heap.size < W.heap.size := by rw [z]; omega
  have HS := Lib.hid hS
  have PA0 := Lib.hid hp
  have GA0 := Lib.hid hg
  clear hp hg e1 e2 hl hl' hnn hS hk hQ hmm hnn' b0 B0 z hO hok
  go_enter Tryd.func9, Tryd.ntmps9
  go_upto_region 1 with (fail)
  try rw [hW]
  clear hW
  have BX : Below W.heap.size W W.drew := (Below.refl _ _).drew
  go_wp2_with (first | (go_at_call 28; refine (TG _).mono ?_; rintro e V ⟨rfl, hV⟩; rw [hV]; clear hV) | (go_at_call 21; refine (TZ _).mono ?_; rintro e V ⟨rfl, hV⟩; rw [hV]; clear hV))
  refine wp_region_plan (ops' := regOf Tryd.f9 8) (.take 0 (.take 2 (.take 4 (.take 6 (.run 1 (.run 3 (.run 5 (.run 7 (.take 8 (.take 9 (.take 10 (.take 11 (.take 12 (.take 13 (.take 14 .fin))))))))))))))) (Below W.heap.size W) (by kernel_rfl) (by kernel_rfl) (by kernel_rfl) (by kernel_rfl) (by kernel_rfl) BX ?_
  refine plan_pure (some 29) (.slice pg m cg) (by kernel_rfl) (by kernel_rfl) (by kernel_rfl) (fun _ => (by kernel_rfl)) ?_
  refine plan_load (some 31) 29 (.tmp 5) w.heap.size 0 _ _ (by kernel_rfl) (by kernel_rfl) (by kernel_rfl) (by kernel_rfl) (by kernel_rfl) (fun w' hw' => range_kept R0.out hb1 _ hw') Tryd.underlying29 rfl (by kernel_rfl) ?_
  refine plan_pure (some 33) (.slice p n c) (by kernel_rfl) (by kernel_rfl) (by kernel_rfl) (fun _ => (by kernel_rfl)) ?_
  refine plan_pure (some 35) (.float .f32 bd) (by kernel_rfl) (by kernel_rfl) (by kernel_rfl) (fun _ => (by kernel_rfl)) ?_
  refine plan_call (some 30) 30 #[.slice pg m cg] (by kernel_rfl) (by kernel_rfl) (by kernel_rfl) (by kernel_rfl) (Calls.mono (TAH.out _ (GA0.out.keep (BW.out.trans (BX.mono BW.out.size)))) ?_)
  rintro _ Va ⟨b1, rfl, _, _, y1, ha⟩
  have BXa := BX.trans (ha.mono BX.size)
  refine ⟨_, rfl, BXa, ?_⟩
  refine plan_call (some 32) 13 #[.agg (Ste X Y R x y)] (by kernel_rfl) (by kernel_rfl) (by kernel_rfl) (by kernel_rfl) (Calls.mono (toSite_any X Y R x y _) ?_)
  rintro _ Vb ⟨rfl, hb⟩
  have BXb := BXa.trans (hb.mono BXa.size)
  refine ⟨_, rfl, BXb, ?_⟩
  refine plan_call (some 34) 23 #[.slice p n c] (by kernel_rfl) (by kernel_rfl) (by kernel_rfl) (by kernel_rfl) (Calls.mono (TOH.out _ (PA0.out.keep (BW.out.trans (BXb.mono BW.out.size)))) ?_)
  rintro _ Vc ⟨b2, rfl, _, _, x1, hc⟩
  have BXc := BXb.trans (hc.mono BXb.size)
  refine ⟨_, rfl, BXc, ?_⟩
  refine plan_call (some 36) 40 #[.slice (some ⟨b1, 0, none⟩) m m, .agg (Ste X Y R x y), .slice (some ⟨b2, 0, none⟩) n n, .float .f32 bd] (by kernel_rfl) (by kernel_rfl) (by kernel_rfl) (by kernel_rfl) (Calls.mono (T3.out _ _ _ _ _ (y1.keep (hb.trans (hc.mono hb.size))) x1) ?_)
  rintro _ Vd ⟨⟨r1, r2, rfl, hr⟩, hd⟩
  have BXd := BXc.trans (hd.mono BXc.size)
  refine ⟨_, rfl, BXd, ?_⟩
  refine plan_pure (some 28) (.tuple #[.float .f32 r1, .float .f32 r2, .int .i64 kk]) (by kernel_rfl) (by kernel_rfl) (by kernel_rfl) (fun _ => (by kernel_rfl)) ?_
  refine plan_pure (some 37) (.float .f32 r1) (by kernel_rfl) (by kernel_rfl) (by kernel_rfl) (fun _ => (by kernel_rfl)) ?_
  refine plan_pure (some 38) (.float .f32 r2) (by kernel_rfl) (by kernel_rfl) (by kernel_rfl) (fun _ => (by kernel_rfl)) ?_
  refine plan_pure (some 39) (.int .i64 kk) (by kernel_rfl) (by kernel_rfl) (by kernel_rfl) (fun _ => (by kernel_rfl)) ?_
  refine plan_pure (some 10) (.float .f32 r1) (by kernel_rfl) (by kernel_rfl) (by kernel_rfl) (fun _ => (by kernel_rfl)) ?_
  refine plan_pure (some 11) (.float .f32 r2) (by kernel_rfl) (by kernel_rfl) (by kernel_rfl) (fun _ => (by kernel_rfl)) ?_
  refine plan_pure (some 12) (.int .i64 kk) (by kernel_rfl) (by kernel_rfl) (by kernel_rfl) (fun _ => (by kernel_rfl)) ?_
  refine plan_end (NoPanic.normal ?_)
  have R1N := Lib.hid hr
  have PD := Lib.hid (PA0.out.keep (BW.out.trans (BXd.mono BW.out.size)))
  have GD := Lib.hid (GA0.out.keep (BW.out.trans (BXd.mono BW.out.size)))
  have BD := Lib.hid BXd
  clear hr BXd BXc BXb BXa BX ha hb hc hd x1 y1
  simp only [Act.put, List.setIfInBounds_toArray, List.set_cons_zero, List.set_cons_succ]
  have t2 : True := trivial
  have t3 : True := trivial
  go_upto_region 11 with (first | (have _t := t2; go_at_call 30; refine (TAH.out _ GD.out).mono ?_; rintro e Ve ⟨b3, rfl, _, _, y1, he⟩; have YA0 := Lib.hid y1; have BE := Lib.hid (BD.out.trans (he.mono BD.out.size)); have PE0 := Lib.hid (PA0.out.keep (BW.out.trans (BE.out.mono BW.out.size))); clear y1 he t2) | (have _t := t3; go_at_call 23; refine (TOH.out _ PE0.out).mono ?_; rintro e Vf ⟨b4, rfl, _, _, x1, hf⟩; have YA := Lib.hid (YA0.out.keep hf); have XA := Lib.hid x1; have BF0 := Lib.hid (BE.out.trans (hf.mono BE.out.size)); clear x1 hf t3 YA0 PE0))
  have r0 := range_kept R0.out hb1 _ BF0.out
  go_upto_region 12 with (first | (refine wpList_load_mid rfl 29 _ rfl w.heap.size 0 rfl (Ste X Y R x y).toList _ r0 Tryd.underlying29 rfl (by kernel_rfl) ?_; try rw [Array.toArray_toList]) | (go_at_call 13; refine (toSite_any X Y R x y _).mono ?_; rintro e Vb ⟨rfl, hb⟩; have BXb := Lib.hid (BF0.out.trans (hb.mono BF0.out.size)); have HB := Lib.hid hb; clear hb) | (go_at_call 41; refine (T4.out _ _ _ _ _ (YA.out.keep HB.out) (XA.out.keep HB.out) (HS.out.keep (BW.out.trans (BXb.out.mono BW.out.size)))).mono ?_; rintro e Vd ⟨⟨u1, u2, rfl, hu⟩, hd⟩; have R2N := Lib.hid hu; have HK := Lib.hid (HB.out.trans (hd.mono HB.out.size)); have BF := Lib.hid (BXb.out.trans (hd.mono BXb.out.size)); clear hu hd))
  have PE := Lib.hid (PA0.out.keep (BW.out.trans (BF.out.mono BW.out.size)))
  have GE := Lib.hid (GA0.out.keep (BW.out.trans (BF.out.mono BW.out.size)))
  have YB := Lib.hid (YA.out.keep HK.out)
  have XB := Lib.hid (XA.out.keep HK.out)
  clear YA XA PD GD
  obtain ⟨n1, n2⟩ := QQ.out u1 u2 r1 r2 R2N.out R1N.out
  have N1 := Lib.hid n1
  have N2 := Lib.hid n2
  clear n1 n2 QQ R1N R2N
  have t3 : True := trivial
  have t4 : True := trivial
  go_wp2_with (first | (have _t := t3; refine wpList_convG (by kernel_rfl) _ _ _ rfl Tryd.underlying22 Tryd.underlying52 _ rfl ?_; intro x1 m1 hx1; have XX := Lib.hid hx1; clear t3 hx1) | (have _t := t4; refine wpList_convG (by kernel_rfl) _ _ _ rfl Tryd.underlying22 Tryd.underlying52 _ rfl ?_; intro y1 m2 hy1; have YY := Lib.hid hy1; clear t4 hy1) | (go_at_call 25; fail))
  refine (sameFloat_yes x1 y1 (by rw [XX.out, YY.out, N1.out]) _).mono ?_
  rintro e w' ⟨rfl, j1, rfl⟩
  have t5 : True := trivial
  have t6 : True := trivial
  go_wp2_with (first | (have _t := t5; refine wpList_convG (by kernel_rfl) _ _ _ rfl Tryd.underlying22 Tryd.underlying52 _ rfl ?_; intro x2 m3 hx2; have XX2 := Lib.hid hx2; clear t5 hx2) | (have _t := t6; refine wpList_convG (by kernel_rfl) _ _ _ rfl Tryd.underlying22 Tryd.underlying52 _ rfl ?_; intro y2 m4 hy2; have YY2 := Lib.hid hy2; clear t6 hy2) | (go_at_call 25; fail))
  refine (sameFloat_yes x2 y2 (by rw [XX2.out, YY2.out, N2.out]) _).mono ?_
  rintro e w' ⟨rfl, j2, rfl⟩
  have D0 : ∀ k, Below Vd.heap.size Vd (Vd.drewN k) := fun k => belowN (Below.refl _ _) k
  have PF := Lib.hid (show ∀ k, RsAt (Vd.drewN k) p L from fun k => PE.out.keep (D0 k))
  have GF := Lib.hid (show ∀ k, AsAt (Vd.drewN k) pg G from fun k => GE.out.keep (D0 k))
  have YC := Lib.hid (show ∀ k, AsAt (Vd.drewN k) (some ⟨b3, 0, none⟩) G from fun k => YB.out.keep (D0 k))
  have XC := Lib.hid (show ∀ k, RsAt (Vd.drewN k) (some ⟨b4, 0, none⟩) L from fun k => XB.out.keep (D0 k))
  have BG := Lib.hid (show ∀ k, Below W.heap.size W (Vd.drewN k) from fun k => belowN BF.out k)
  clear D0
  go_wp2_with (first | (go_at_call 30; refine (TAH.out _ (GF.out _)).mono ?_; rintro e Vg ⟨b5, rfl, _, _, x1, hg⟩; have YD := Lib.hid ((YC.out _).keep hg); have XD := Lib.hid ((XC.out _).keep hg); have PG := Lib.hid ((PF.out _).keep hg); have ZA := Lib.hid x1; have BH := Lib.hid ((BG.out _).trans (hg.mono (BG.out _).size)); clear x1 hg) | (go_at_call 32; refine (TEA.out _ _ _ _ _ YD.out ZA.out).mono ?_; rintro e Vh ⟨rfl, hh⟩; have XE := Lib.hid (XD.out.keep hh); have PH := Lib.hid (PG.out.keep hh); have BI := Lib.hid (BH.out.trans (hh.mono BH.out.size)); clear hh) | (go_at_call 23; refine (TOH.out _ PH.out).mono ?_; rintro e Vi ⟨b6, rfl, _, _, x1, hi⟩; have XF := Lib.hid (XE.out.keep hi); have ZB := Lib.hid x1; have BJ := Lib.hid (BI.out.trans (hi.mono BI.out.size)); clear x1 hi) | (go_at_call 16; refine (TEQ.out _ _ _ _ _ XF.out ZB.out).mono ?_; rintro e Vj ⟨rfl, hj⟩; have BK := Lib.hid (BJ.out.trans (hj.mono BJ.out.size)); clear hj))
  go_ret
  exact ⟨rfl, BW.out.trans (BK.out.mono BW.out.size)⟩

set_option maxRecDepth 100000 in
theorem fnExactTransmitSpan_walk (H : Type) (enc : TypeId × Value → H) (W : World) (base : Nat) (args : Array Value) (ds : List (DataW H)) (ps : List MemPlace) (hn : args.size = Tryd.f9.params.size)
    (hv : ∀ (j : Nat) t v, Tryd.f9.params[j]? = some t → args[j]? = some v → Value.okWide Tryd.prog W .any base t v)
    (hA : DataW.TrodAll enc Tryd.prog W 0 (fun _ => true) true Tryd.f9.params.toList args.toList ds ps) (s : Nat → Addr) (hS : Sents W s) :
    Calls Tryd.prog 9 args W fun e W' => e = .returned (.bool true) ∧ Below W.heap.size W W' := by
  rw [Tryd.params9] at hn hv hA
  obtain ⟨l⟩ := args
  match l, hn with
  | [v0, v1, v2, v3], _ =>
    obtain ⟨u0, us, d0, ds', a0, a1, he, _, _, h0, h1⟩ := trodAll_cons hA
    cases he
    obtain ⟨u1, us1, d1, ds1, a2, a3, he, _, _, h2, h3⟩ := trodAll_cons h1
    cases he
    obtain ⟨u2, us2, d2, ds2, a4, a5, he, _, _, h4, h5⟩ := trodAll_cons h3
    cases he
    obtain ⟨bd, rfl, hbd⟩ := okWide_f32w (hv 3 _ v3 rfl rfl)
    obtain ⟨pg, cg, G, rfl, hG, hg, hok⟩ := open_as (okWide_slice Tryd.underlying57 (hv 0 _ v0 rfl rfl)) h0
    obtain ⟨X, Y, R, x, y, rfl, hX, hY, _, hx, hy⟩ := okWide_st (hv 1 _ v1 rfl rfl)
    by_cases h8 : G.length ≤ 1048576
    · obtain ⟨p, c, L, rfl, hL, hp, hok2⟩ := open_rs (okWide_slice Tryd.underlying46 (hv 2 _ v2 rfl rfl)) h4
      have hO : ∀ e ∈ L, -32768 ≤ e.2 ∧ e.2 ≤ 32767 := fun e he => by
        have := (hok2 e he).2
        simp only [Lit.wf, IntKind.min, IntKind.max, IntKind.bits, IntKind.signed, Bool.and_eq_true, decide_eq_true_eq] at this
        simpa using this
      by_cases h9 : L.length ≤ 1048576 - G.length
      · exact fnExactTransmitSpan_near pg cg G X Y R x y p c L bd hX hY hx hy hok hO h8 h9 W hg hp hS
      · exact fnExactTransmitSpan_farL pg _ cg X Y R x y p _ c bd h8 (by omega) hL W
    · exact fnExactTransmitSpan_farG pg _ cg X Y R x y v2 (.float .f32 bd) (by omega) hG W

set_option maxRecDepth 100000
theorem fnExactTransmitSpan_j0 : (Rows.fnExactTransmitSpanRow.inPlace == Tryd.prog.inPlace 9) = true := by kernel_rfl
theorem fnExactTransmitSpan_j1 : (Rows.fnExactTransmitSpanRow.unfollowed == Tryd.prog.unfollowed 9) = true := by kernel_rfl
theorem fnExactTransmitSpan_j2 : (Rows.fnExactTransmitSpanRow.recurses == Tryd.prog.recurses 9) = true := by kernel_rfl
theorem fnExactTransmitSpan_j3 : (Rows.fnExactTransmitSpanRow.named == Tryd.prog.varsNamed 9) = true := by kernel_rfl
theorem fnExactTransmitSpan_jw : Rows.fnExactTransmitSpanRow.wf (OpenSpec.ofChange Rows.fnExactTransmitSpanSpec) = true := by kernel_rfl
theorem fnExactTransmitSpan_jn : namedTie Tryd.prog Rows.fnExactTransmitSpanRow.named Rows.fnExactTransmitSpanSpec.vars = true := by kernel_rfl
theorem fnExactTransmitSpan_jf : joinedFacts Tryd.prog 9 Tryd.f9 Rows.fnExactTransmitSpanSpec Rows.fnExactTransmitSpanRow = true := by
  unfold joinedFacts
  simp only [Bool.and_eq_true]
  exact ⟨⟨⟨⟨⟨⟨⟨⟨⟨⟨⟨⟨⟨⟨⟨⟨⟨⟨⟨⟨⟨⟨⟨⟨⟨⟨⟨⟨⟨⟨⟨fnExactTransmitSpan_jw, (by kernel_rfl)⟩, (by kernel_rfl)⟩, (by kernel_rfl)⟩, fnExactTransmitSpan_jn⟩, (by kernel_rfl)⟩, (by kernel_rfl)⟩, (by kernel_rfl)⟩, (by kernel_rfl)⟩, fnExactTransmitSpan_j0⟩, fnExactTransmitSpan_j1⟩, fnExactTransmitSpan_j2⟩, fnExactTransmitSpan_j3⟩, (by kernel_rfl)⟩, (by kernel_rfl)⟩, (by kernel_rfl)⟩, (by kernel_rfl)⟩, (by kernel_rfl)⟩, (by kernel_rfl)⟩, (by kernel_rfl)⟩, (by kernel_rfl)⟩, (by kernel_rfl)⟩, (by kernel_rfl)⟩, (by kernel_rfl)⟩, (by kernel_rfl)⟩, (by kernel_rfl)⟩, (by kernel_rfl)⟩, (by kernel_rfl)⟩, (by kernel_rfl)⟩, (by kernel_rfl)⟩, (by kernel_rfl)⟩, (by kernel_rfl)⟩
theorem fnExactTransmitSpan_nm : Tryd.pinned.checked.prog.funcNamed Rows.fnExactTransmitSpanRow.func = some 9 := by kernel_rfl
theorem fnExactTransmitSpan_rd : ∀ t ∈ Tryd.f9.params.toList, Tryd.prog.readableRec t = true ∧ t < Tryd.prog.types.size := by rw [Tryd.params9]; exact (by decide +kernel)
theorem fnExactTransmitSpan_ok (os : Os) : Input.okWideB Tryd.checked.prog ((World.laidAll Tryd.prog os laidE).forCall (fun _ _ => 0) ⟨#[], #[.slice none 0 0, .agg (Ste 0 0 0 0 0), .slice none 0 0, .float .f32 0], []⟩) 9 ⟨#[], #[.slice none 0 0, .agg (Ste 0 0 0 0 0), .slice none 0 0, .float .f32 0], []⟩ = true := by kernel_rfl
theorem fnExactTransmitSpan_pb (os : Os) (H : Type) (enc : TypeId × Value → H) : Rows.fnExactTransmitSpanSpec.preB enc Tryd.checked.prog Tryd.f9 [] false ((World.laidAll Tryd.prog os laidE).forCall (fun _ _ => 0) ⟨#[], #[.slice none 0 0, .agg (Ste 0 0 0 0 0), .slice none 0 0, .float .f32 0], []⟩).memory #[.slice none 0 0, .agg (Ste 0 0 0 0 0), .slice none 0 0, .float .f32 0] 16 = true := by kernel_rfl
theorem fnExactTransmitSpan_sb (os : Os) (H : Type) (enc : TypeId × Value → H) : Rows.fnExactTransmitSpanSpec.sizedB enc Tryd.checked.prog Tryd.f9 false ((World.laidAll Tryd.prog os laidE).forCall (fun _ _ => 0) ⟨#[], #[.slice none 0 0, .agg (Ste 0 0 0 0 0), .slice none 0 0, .float .f32 0], []⟩).memory #[.slice none 0 0, .agg (Ste 0 0 0 0 0), .slice none 0 0, .float .f32 0] 16 = true := by kernel_rfl
theorem fnExactTransmitSpan_vr : varsRowed Tryd.prog Rows.fnExactTransmitSpanSpec.vars = true := by kernel_rfl
theorem fnExactTransmitSpan_row : Rows.FnExactTransmitSpanSaid :=
  OpenClaim.holds_of_wide 9 Tryd.f9 rfl rfl rfl rfl rfl rfl rfl ⟨rfl, rfl, rfl, rfl, rfl⟩ rfl rfl rfl rfl rfl fnExactTransmitSpan_nm Tryd.func9 fnExactTransmitSpan_jf
    (of_decide_eq_true (by kernel_rfl)) (by unfold Func.isWrapper; first | (rw [if_pos (by decide +kernel)]; kernel_rfl) | (rw [if_neg (by decide +kernel)]; exact ⟨rfl, rfl⟩))
    (fun os started H enc _ => liftE 9 Tryd.f9 Rows.fnExactTransmitSpanSpec Tryd.func9 rfl rfl fnExactTransmitSpan_vr
      (fun H ds gs h h' => match ds, h, gs, h' with | [d0, d1, d2, d3], _, [g0, g1, g2, g3, g4], _ => rfl)
      fnExactTransmitSpan_rd
      fnExactTransmitSpan_walk os started H enc (by kernel_rfl)
      (witnessE 9 Tryd.f9 Rows.fnExactTransmitSpanSpec #[.slice none 0 0, .agg (Ste 0 0 0 0 0), .slice none 0 0, .float .f32 0] os H enc (fnExactTransmitSpan_ok os) (fnExactTransmitSpan_pb os H enc) (fnExactTransmitSpan_sb os H enc)))

set_option maxRecDepth 100000 in
theorem fnExactTransmitSpan_holds : Rows.FnExactTransmitSpanCardSaid :=
  Claim7.holds_tied_plain_at .later [] [.sentinel, .sentinel, .sentinel, .sentinel, .sentinel] true Rows.fnExactTransmitSpanCard.stood.harness Rows.fnExactTransmitSpanCard.stood.looks
    fnExactTransmitSpan_row (fun _ h => by cases h) (by kernel_rfl) (fun _ h => by cases h) fnExactTransmitSpan_row_tie rfl ⟨rfl, rfl⟩ (by kernel_rfl) (by kernel_rfl)
    (fun f fn hf hfn => by
      obtain rfl : f = 9 := Option.some.inj ((show Tryd.prog.funcNamed "loop.example/g01288/laws.FnExactTransmitSpan" = some 9 by kernel_rfl).symm.trans hf) |>.symm
      obtain rfl : fn = Tryd.f9 := (Option.some.inj (Tryd.func9.symm.trans hfn)).symm
      refine ⟨by kernel_rfl, fun j t ht => ?_⟩
      have hall : Tryd.f9.params.toList.all (fun t => !Tryd.prog.wantsStandIn t) = true := by kernel_rfl
      have hm : t ∈ Tryd.f9.params.toList := Array.mem_toList_iff.2 (Array.mem_of_getElem? ht)
      have h := List.all_eq_true.1 hall t hm
      simp only [Bool.not_eq_true'] at h
      exact h)
    (by kernel_rfl)
#print axioms fnExactTransmitSpan_holds
end Go.Proofs.YthacifhphoaioaaDoor
