/- The law FnExactCheckGrant of this commit, its walk. Condition: the table of math/bits is laid. -/
import Derived.Test.YtaghnminpfgdcaaGreatDoorCkI
namespace Go.Proofs.YtaghnminpfgdcaaGreatDoor
open Go Go.ChangeShapes Go.WideShapes Go.ChangeAt Go.RowKit Go.Deep
set_option linter.unusedSimpArgs false
set_option linter.unusedVariables false
set_option maxRecDepth 100000
theorem szWatchS_yes (p : Option Addr) (n c l : Nat) (h : n ≤ l) (hl : l ≤ 1048576) (w : World) : Calls Tryz.prog 47 #[.slice p n c, .int .i64 (l : Int)] w fun e w' => e = .returned (.int .i64 ((l - n : Nat) : Int)) ∧ w' = w := by
  have e : ((l - n : Nat) : Int) = (l : Int) - n := by omega
  rw [e]
  go_enter Tryz.func47, Tryz.ntmps47
  go_wp2
  go_ret
  exact ⟨rfl, rfl⟩
theorem szWatchS_no (p : Option Addr) (n c l : Nat) (h : l < n) (hl : l ≤ 1048576) (hn : n ≤ maxLen) (w : World) : Calls Tryz.prog 47 #[.slice p n c, .int .i64 (l : Int)] w fun e w' => e = .returned (.int .i64 (-1)) ∧ w' = w := by
  unfold maxLen at hn
  go_enter Tryz.func47, Tryz.ntmps47
  go_wp2
  go_ret
  exact ⟨rfl, rfl⟩
set_option maxHeartbeats 1000000 in
theorem szOffice_yes (B : Ofc) (l : Nat) (h : B.n ≤ l) (hl : l ≤ 1048576) (w : World) : Calls Tryz.prog 12 #[.agg (OfA B), .int .i64 (l : Int)] w fun e w' => e = .returned (.int .i64 ((l - B.n : Nat) : Int)) ∧ Below w.heap.size w w' := by
  obtain ⟨W, hW, hs, b1, hB⟩ := obox1 B 30 w
  have s1 := b1.s
  have T := Lib.hid (fun V => szWatchS_yes B.p B.n B.c l h hl V)
  have HB := Lib.hid hB
  obtain ⟨A, hA⟩ : ∃ A, OfA B = A := ⟨_, rfl⟩
  rw [hA] at hW ⊢
  obtain ⟨m, hm⟩ : ∃ m, l - B.n = m := ⟨_, rfl⟩
  rw [hm] at T ⊢
  have hm2 : m ≤ 1048576 := by omega
  clear b1 hs hB hA h hm
  go_enter Tryz.func12, Tryz.ntmps12
  go_upto_region 1 with (fail)
  try rw [hW]
  clear hW
  go_wp2_with (go_at_call 47; refine (T.out _).mono ?_; rintro e V ⟨rfl, hV⟩; rw [hV]; clear hV)
  go_ret
  exact ⟨rfl, HB.out⟩
set_option maxHeartbeats 1000000 in
theorem szOffice_no (B : Ofc) (l : Nat) (h : l < B.n) (hl : l ≤ 1048576) (hn : B.n ≤ maxLen) (w : World) : Calls Tryz.prog 12 #[.agg (OfA B), .int .i64 (l : Int)] w fun e w' => e = .returned (.int .i64 (-1)) ∧ Below w.heap.size w w' := by
  obtain ⟨W, hW, hs, b1, hB⟩ := obox1 B 30 w
  have s1 := b1.s
  have T := Lib.hid (fun V => szWatchS_no B.p B.n B.c l h hl hn V)
  have HB := Lib.hid hB
  obtain ⟨A, hA⟩ : ∃ A, OfA B = A := ⟨_, rfl⟩
  rw [hA] at hW ⊢
  clear b1 hs hB hA h hn
  go_enter Tryz.func12, Tryz.ntmps12
  go_upto_region 1 with (fail)
  try rw [hW]
  clear hW
  go_wp2_with (go_at_call 47; refine (T.out _).mono ?_; rintro e V ⟨rfl, hV⟩; rw [hV]; clear hV)
  go_ret
  exact ⟨rfl, HB.out⟩
theorem stored_off (A : Ofc) (t : TypeId) (w : World) : ∃ U, (w.alloc (.cells (OfA zO) t)).setCells w.heap.size 0 (OfA A).toList = U ∧ U.heap.size = w.heap.size + 1 ∧ OfBox U w.heap.size A ∧ Below w.heap.size w U := by
  obtain ⟨W, h, hs, g, hB⟩ := obox1 zO t w
  rw [h]
  exact ⟨_, rfl, by rw [size_setCells, hs], g.store, below_setCells _ (Nat.le_refl _) _ _ _ hB⟩
theorem new_thereO (t : TypeId) (w : World) : (w.alloc (.cells (OfA zO) t)).there w.heap.size 0 196 := there_row (heap_alloc_last w _) (OfA_size zO)
theorem okT_T2 {e : T2} (h : okT e) : okT2 e := by
  unfold okT at h
  simp only [Lit.wf, IntKind.min, IntKind.max, IntKind.bits, IntKind.signed, Bool.and_eq_true, decide_eq_true_eq] at h
  simp at h
  exact h
theorem szPermit_yes (p : Option Addr) (n c l : Nat) (h : n ≤ l) (hl : l ≤ 1048576) (w : World) : Calls Tryz.prog 13 #[.slice p n c, .int .i64 (l : Int)] w fun e w' => e = .returned (.int .i64 ((l - n : Nat) : Int)) ∧ w' = w := by
  have e : ((l - n : Nat) : Int) = (l : Int) - n := by omega
  rw [e]
  go_enter Tryz.func13, Tryz.ntmps13
  go_wp2
  go_ret
  exact ⟨rfl, rfl⟩
theorem szPermit_no (p : Option Addr) (n c l : Nat) (h : l < n) (hl : l ≤ 1048576) (hn : n ≤ maxLen) (w : World) : Calls Tryz.prog 13 #[.slice p n c, .int .i64 (l : Int)] w fun e w' => e = .returned (.int .i64 (-1)) ∧ w' = w := by
  unfold maxLen at hn
  go_enter Tryz.func13, Tryz.ntmps13
  go_wp2
  go_ret
  exact ⟨rfl, rfl⟩
theorem okP_PQ {e : P3} (h : okP e) : okPQ e := by
  obtain ⟨h1, h2, h3⟩ := h
  simp only [Lit.wf, IntKind.min, IntKind.max, IntKind.bits, IntKind.signed, Bool.and_eq_true, decide_eq_true_eq] at h1 h2 h3
  simp at h1 h2 h3
  exact ⟨h1, h2, h3⟩
set_option maxHeartbeats 2000000 in
theorem fnExactCheckGrant_far (B : Ofc) (v : Value) (p3 : Option Addr) (n3 c3 : Nat) (h3 : n3 ≤ 1048576) (hn : 1048576 < B.n) (hx : B.n ≤ maxLen) (w : World) : Calls Tryz.prog 8 #[.agg (OfA B), v, .slice p3 n3 c3] w fun e w' => e = .returned (.bool true) ∧ Below w.heap.size w w' := by
  obtain ⟨W, hW, hs, b1, hB⟩ := obox1 B 30 w
  have T := Lib.hid (fun V => szOffice_no B 1048576 hn (by omega) hx V)
  have r1 := b1.range
  have HB := Lib.hid hB
  clear hn hx b1 hs hB
  go_enter Tryz.func8, Tryz.ntmps8
  go_upto_region 1 with (fail)
  try rw [hW]
  clear hW
  go_wp2_with (first | (refine ldS 30 rfl ?_; refine wpList_load_mid rfl 30 _ rfl w.heap.size 0 rfl (OfL B) _ r1 Tryz.underlying30 rfl (by rw [OfL_length]; exact infoLOffice) ?_) | (go_at_call 12; refine (T.out _).mono ?_; rintro e V ⟨rfl, hV⟩; have HV := Lib.hid (HB.out.trans (hV.mono HB.out.size)); clear hV r1))
  go_ret
  exact ⟨rfl, HV.out⟩
set_option maxHeartbeats 2000000 in
theorem fnExactCheckGrant_farP (B : Ofc) (p : Option Addr) (n c : Nat) (p3 : Option Addr) (n3 c3 : Nat) (h3 : n3 ≤ 1048576) (hm : B.n ≤ 1048576) (hn : 1048576 - B.n < n) (hx : n ≤ maxLen) (w : World) : Calls Tryz.prog 8 #[.agg (OfA B), .slice p n c, .slice p3 n3 c3] w fun e w' => e = .returned (.bool true) ∧ Below w.heap.size w w' := by
  obtain ⟨W, hW, hs, b1, hB⟩ := obox1 B 30 w
  have T := Lib.hid (fun V => szOffice_yes B 1048576 hm (by omega) V)
  have T2 := Lib.hid (fun V => szPermit_no p n c (1048576 - B.n) hn (by omega) hx V)
  obtain ⟨l, hl⟩ : ∃ l, 1048576 - B.n = l := ⟨_, rfl⟩
  rw [hl] at T T2
  have hl2 : l ≤ 1048576 := by omega
  have r1 := b1.range
  have HB := Lib.hid hB
  clear hm hn hx b1 hs hB hl
  go_enter Tryz.func8, Tryz.ntmps8
  go_upto_region 1 with (fail)
  try rw [hW]
  clear hW
  go_wp2_with (first | (refine ldS 30 rfl ?_; refine wpList_load_mid rfl 30 _ rfl w.heap.size 0 rfl (OfL B) _ r1 Tryz.underlying30 rfl (by rw [OfL_length]; exact infoLOffice) ?_) | (go_at_call 12; refine (T.out _).mono ?_; rintro e V ⟨rfl, hV⟩; have HV := Lib.hid (HB.out.trans (hV.mono HB.out.size)); clear hV r1) | (go_at_call 13; refine (T2.out _).mono ?_; rintro e V2 ⟨rfl, hV⟩; rw [hV]; clear hV))
  go_ret
  exact ⟨rfl, HV.out⟩
set_option maxHeartbeats 2000000 in
theorem fnExactCheckGrant_farM (B : Ofc) (v : Value) (p3 : Option Addr) (n3 c3 : Nat) (h3 : 1048576 < n3) (hx : n3 ≤ maxLen) (w : World) : Calls Tryz.prog 8 #[.agg (OfA B), v, .slice p3 n3 c3] w fun e w' => e = .returned (.bool true) ∧ Below w.heap.size w w' := by
  obtain ⟨W, hW, hs, b1, hB⟩ := obox1 B 30 w
  have HB := Lib.hid hB
  unfold maxLen at hx
  clear b1 hs hB
  go_enter Tryz.func8, Tryz.ntmps8
  go_upto_region 1 with (fail)
  try rw [hW]
  clear hW
  go_wp2
  go_ret
  exact ⟨rfl, HB.out⟩
set_option maxHeartbeats 4000000 in
theorem fnExactCheckGrant_near (G : Gd) (pw : Option Addr) (cw : Nat) (Lw : List T2) (hG : GdOk G) (hOw : ∀ e ∈ Lw, okT2 e) (hm : Lw.length ≤ 1048576) (p : Option Addr) (c : Nat) (L : List P3) (hO : ∀ e ∈ L, okPQ e) (hnn' : L.length ≤ 1048576 - Lw.length) (q3 : Option Addr) (c3 : Nat) (M : List Int) (hM : M.length ≤ 1048576) (w : World) (hpw : TsAt w pw Lw) (hp : PsAt w p L) (hq : IsAt w q3 M) (hT : TabAt w) :
    Calls Tryz.prog 8 #[.agg (OfA ⟨G, pw, Lw.length, cw⟩), .slice p L.length c, .slice q3 M.length c3] w fun e w' => e = .returned (.bool true) ∧ Below w.heap.size w w' := by
  have hn : L.length ≤ 1048576 := by omega
  have T := Lib.hid (fun V => szOffice_yes ⟨G, pw, Lw.length, cw⟩ 1048576 hm (by omega) V)
  have TZ := Lib.hid (fun V => szPermit_yes p L.length c (1048576 - Lw.length) hnn' (by omega) V)
  have TO := Lib.hid (fun V (h : TsAt V pw Lw) => toOffice_any G pw cw Lw hm V h)
  have TP := Lib.hid (fun V (h : PsAt V p L) => toPermitS_any p c L hn V h)
  have TS := Lib.hid (fun (q : Option Addr) (d : Nat) (q' : Option Addr) (d' : Nat) (q2 : Option Addr) (d2 : Nat) V (h : TsAt V q Lw) (h' : PsAt V q' L) (h2 : IsAt V q2 M) => specCk_any G q d Lw hm hOw q' d' L hn hO q2 d2 M hM V h h' h2 hG)
  have TI := Lib.hid (fun (q : Option Addr) (d : Nat) (q' : Option Addr) (d' : Nat) (q2 : Option Addr) (d2 : Nat) V (h : TsAt V q Lw) (h' : PsAt V q' L) (h2 : IsAt V q2 M) (ht : TabAt V) => implCk_any G q d Lw hm hOw q' d' L hn hO q2 d2 M hM V h h' h2 hG ht)
  have TQ := Lib.hid (fun V (h : IsAt V q3 M) => toInt64S_any q3 c3 M hM V h)
  have TEQ := Lib.hid (fun (q r : Option Addr) (d d' : Nat) V (h : IsAt V q M) (h' : IsAt V r M) => eqInt64S_is q r d d' M hM V h h')
  have TE := Lib.hid (fun (q r : Option Addr) (d d' : Nat) V (h : TsAt V q Lw) (h' : TsAt V r Lw) => eqOffice_yes G q r d d' Lw hm V h h')
  have TEP := Lib.hid (fun (q r : Option Addr) (d d' : Nat) V (h : PsAt V q L) (h' : PsAt V r L) => eqPermitS_yes q r d d' L hn V h h')
  obtain ⟨o0, ho0⟩ : ∃ x, (ckV G Lw L M).1 = x := ⟨_, rfl⟩
  obtain ⟨o1, ho1⟩ : ∃ x, (ckV G Lw L M).2 = x := ⟨_, rfl⟩
  rw [ho0, ho1] at TS TI
  obtain ⟨m, hmm⟩ : ∃ m, Lw.length = m := ⟨_, rfl⟩
  obtain ⟨n, hnn⟩ : ∃ n, L.length = n := ⟨_, rfl⟩
  obtain ⟨z, hzz⟩ : ∃ z, M.length = z := ⟨_, rfl⟩
  simp only [hmm, hnn, hzz] at T TZ TO TP TS TI TE TEP TQ TEQ hn hm hM ⊢
  obtain ⟨l, hl⟩ : ∃ l, 1048576 - m = l := ⟨_, rfl⟩
  rw [hl] at T TZ
  have hl2 : l ≤ 1048576 := by omega
  obtain ⟨l', hl'⟩ : ∃ l', l - n = l' := ⟨_, rfl⟩
  rw [hl'] at TZ
  have hl3 : l' ≤ 1048576 := by omega
  obtain ⟨W, hW, hs, b1, hB⟩ := obox1 ⟨G, pw, m, cw⟩ 30 w
  have HR := Lib.hid (fun V (hV : Below W.heap.size W V) => (b1.below hV (by omega)).range)
  have HB := Lib.hid hB
  have BX0 := Lib.hid (Below.refl W.heap.size W)
  have HPW := Lib.hid (hpw.keep hB)
  have HP := Lib.hid (hp.keep hB)
  have HQ := Lib.hid (hq.keep hB)
  have HT := Lib.hid (hT.below hB (tab_lt hT))
  have HTL := Lib.hid (show 1 < W.heap.size by have := tab_lt hT; omega)
  have hz := (zero_of_info zeroOffice).1
  obtain ⟨A0, hA0⟩ : ∃ A0, OfA ⟨G, pw, m, cw⟩ = A0 := ⟨_, rfl⟩
  have r0 := HR.out W (Below.refl _ _)
  clear ho0 ho1 hnn hmm hl hl' hs b1 hB hp hq hpw hT hG hO hOw hn hm hnn' hzz
  rw [hA0] at hW
  rw [hA0]
  go_enter Tryz.func8, Tryz.ntmps8
  go_upto_region 1 with (fail)
  try rw [hW]
  clear hW
  go_upto_region 10 with (first | (refine ldS 30 rfl ?_; refine wpList_load_mid rfl 30 _ rfl w.heap.size 0 rfl (OfL ⟨G, pw, m, cw⟩) _ r0 Tryz.underlying30 rfl (by rw [OfL_length]; exact infoLOffice) ?_) | (go_at_call 12; refine (T.out _).mono ?_; rintro e V0 ⟨rfl, hV⟩; have BX1 := Lib.hid hV; have r1 := HR.out V0 hV; clear hV r0) | (go_at_call 13; refine (TZ.out _).mono ?_; rintro e V00 ⟨rfl, hV⟩; rw [hV]; clear hV))
  go_upto_region 11 with (first | (refine ldS 30 rfl ?_; refine wpList_load_mid rfl 30 _ rfl w.heap.size 0 rfl (OfL ⟨G, pw, m, cw⟩) _ r1 Tryz.underlying30 rfl (by rw [OfL_length]; exact infoLOffice) ?_) | (go_at_call 15; refine (TO.out _ (HPW.out.keep BX1.out)).mono ?_; rintro e V1 ⟨b1, rfl, _, _, x1, hV⟩; have BX2 := Lib.hid (BX1.out.trans (hV.mono BX1.out.size)); have XA := Lib.hid x1; clear hV x1 r1) | (go_at_call 16; refine (TP.out _ (HP.out.keep BX2.out)).mono ?_; rintro e V1b ⟨b1b, rfl, _, _, x1, hV⟩; have BX2b := Lib.hid (BX2.out.trans (hV.mono BX2.out.size)); have XA2 := Lib.hid (XA.out.keep hV); have XP := Lib.hid x1; clear hV x1) | (go_at_call 39; refine (TQ.out _ (HQ.out.keep BX2b.out)).mono ?_; rintro e V1c ⟨b1c, rfl, _, _, x1, hV⟩; have BX2c := Lib.hid (BX2b.out.trans (hV.mono BX2b.out.size)); have XA3 := Lib.hid (XA2.out.keep hV); have XP3 := Lib.hid (XP.out.keep hV); have XQ := Lib.hid x1; clear hV x1) | (go_at_call 38; refine (TS.out _ _ _ _ _ _ _ XA3.out XP3.out XQ.out).mono ?_; rintro e V2 ⟨rfl, hV⟩; have BX3 := Lib.hid (BX2c.out.trans (hV.mono BX2c.out.size)); clear hV))
  have r3 := HR.out V2 BX3.out
  go_upto_region 12 with (first | (refine ldS 30 rfl ?_; refine wpList_load_mid rfl 30 _ rfl w.heap.size 0 rfl (OfL ⟨G, pw, m, cw⟩) _ r3 Tryz.underlying30 rfl (by rw [OfL_length]; exact infoLOffice) ?_) | (go_at_call 15; refine (TO.out _ (HPW.out.keep BX3.out)).mono ?_; rintro e V3 ⟨b2, rfl, hb1, hb2, x1, hV⟩; have BX4 := Lib.hid (BX3.out.trans (hV.mono BX3.out.size)); have YA := Lib.hid x1; have hth := new_thereO 41 V3; clear hV x1 r3) | (refine stS 41 rfl ?_; refine wpList_store_mid rfl 41 _ _ rfl _ 0 (OfA ⟨G, some ⟨b2, 0, none⟩, m, m⟩) rfl rfl (by rw [OfA_size]; with_reducible exact hth) (by rw [OfA_size]; exact infoOffice) (OfA_one _) ?_))
  obtain ⟨X, hX, zX, gX, bX⟩ := stored_off ⟨G, some ⟨b2, 0, none⟩, m, m⟩ 41 V3
  try rw [hX]
  have YB := Lib.hid (YA.out.keep bX)
  have BX5 := Lib.hid (BX4.out.trans (bX.mono BX4.out.size))
  obtain ⟨N, hN⟩ : ∃ N, V3.heap.size = N := ⟨_, rfl⟩
  rw [hN] at gX ⊢
  have HGX := Lib.hid (fun V (hV : Below X.heap.size X V) => (gX.below hV (by omega)).range)
  clear hX zX gX bX hth hN hz
  go_upto_region 13 with (go_at_call 16; refine (TP.out _ (HP.out.keep BX5.out)).mono ?_; rintro e V5 ⟨b5, rfl, _, _, x1, hV⟩; have HX5 := Lib.hid hV; have BX5b := Lib.hid (BX5.out.trans (hV.mono BX5.out.size)); have YB5 := Lib.hid (YB.out.keep hV); have YP := Lib.hid x1; clear hV x1)
  go_upto_region 14 with (go_at_call 39; refine (TQ.out _ (HQ.out.keep BX5b.out)).mono ?_; rintro e V5c ⟨b5c, rfl, _, _, x1, hV⟩; have HX5c := Lib.hid (HX5.out.trans (hV.mono HX5.out.size)); have BX5c := Lib.hid (BX5b.out.trans (hV.mono BX5b.out.size)); have YB5c := Lib.hid (YB5.out.keep hV); have YPc := Lib.hid (YP.out.keep hV); have YQ := Lib.hid x1; clear hV x1)
  have r5 := HGX.out V5c HX5c.out
  go_upto_region 17 with (first | (refine ldS 41 rfl ?_; refine wpList_load_mid rfl 41 _ rfl N 0 rfl (OfL ⟨G, some ⟨b2, 0, none⟩, m, m⟩) _ r5 Tryz.underlying41 rfl (by rw [OfL_length]; exact infoOffice) ?_) | (go_at_call 40; refine (TI.out _ _ _ _ _ _ _ YB5c.out YPc.out YQ.out (HT.out.below BX5c.out HTL.out)).mono ?_; rintro e V6 ⟨rfl, hV⟩; have HX6 := Lib.hid (HX5c.out.trans (hV.mono HX5c.out.size)); have YC := Lib.hid (YB5c.out.keep hV); have YPC := Lib.hid (YPc.out.keep hV); have YQC := Lib.hid (YQ.out.keep hV); have BX6 := Lib.hid (BX5c.out.trans (hV.mono BX5c.out.size)); clear hV r5))
  refine wp_region_plan (ops' := regOf Tryz.f8 17) (.take 0 (.take 1 (.run 2 (.run 3 (.take 4 .fin))))) (fun V => Below X.heap.size X V ∧ Below W.heap.size W V) (by kernel_rfl) (by kernel_rfl) (by kernel_rfl) (by kernel_rfl) (by kernel_rfl) ⟨HX6.out.drew, BX6.out.drew⟩ ?_
  refine plan_load (some 59) 41 (.tmp 10) N 0 _ _ (by kernel_rfl) (by kernel_rfl) (by kernel_rfl) (by kernel_rfl) (by kernel_rfl) (fun w' hw' => HGX.out w' hw'.1) Tryz.underlying41 rfl (by rw [OfL_length]; exact infoOffice) ?_
  refine plan_load (some 60) 30 (.tmp 3) w.heap.size 0 _ _ (by kernel_rfl) (by kernel_rfl) (by kernel_rfl) (by kernel_rfl) (by kernel_rfl) (fun w' hw' => HR.out w' hw'.2) Tryz.underlying30 rfl (by rw [OfL_length]; exact infoLOffice) ?_
  refine plan_call (some 61) 15 #[.agg (OfA ⟨G, pw, m, cw⟩)] (by kernel_rfl) (by kernel_rfl) (by kernel_rfl) (by kernel_rfl) (Calls.mono (TO.out _ (HPW.out.keep BX6.out.drew)) ?_)
  rintro _ V7 ⟨b3, rfl, _, _, x3, h7⟩
  have HX7 := HX6.out.drew.trans (h7.mono HX6.out.drew.size)
  have BX7 := BX6.out.drew.trans (h7.mono BX6.out.drew.size)
  refine ⟨_, rfl, ⟨HX7, BX7⟩, ?_⟩
  refine plan_call (some 62) 19 #[.agg (OfA ⟨G, some ⟨b2, 0, none⟩, m, m⟩), .agg (OfA ⟨G, some ⟨b3, 0, none⟩, m, m⟩)] (by kernel_rfl) (by kernel_rfl) (by kernel_rfl) (by kernel_rfl) (Calls.mono (TE.out _ _ _ _ _ ((YC.out.keep ((Below.refl _ _).drew)).keep h7) x3) ?_)
  rintro _ V8 ⟨rfl, h8⟩
  have HX8 := HX7.trans (h8.mono HX7.size)
  have BX8 := BX7.trans (h8.mono BX7.size)
  refine ⟨_, rfl, ⟨HX8, BX8⟩, ?_⟩
  refine plan_pure (some 63) (.bool false) (by kernel_rfl) (by kernel_rfl) (by kernel_rfl) (fun _ => (by kernel_rfl)) ?_
  refine plan_end (NoPanic.normal ?_)
  simp only [Act.put, List.setIfInBounds_toArray, List.set_cons_zero, List.set_cons_succ]
  have YQ8 := Lib.hid (((YQC.out.keep ((Below.refl _ _).drew)).keep h7).keep h8)
  have YP8 := Lib.hid (((YPC.out.keep ((Below.refl _ _).drew)).keep h7).keep h8)
  have HZ := Lib.hid BX8
  clear HX7 BX7 HX8 BX8 h7 h8 x3
  go_wp2_with (first | (go_at_call 16; refine (TP.out _ (HP.out.keep HZ.out)).mono ?_; rintro e V9 ⟨b9, rfl, _, _, x1, hV⟩; have HZ9 := Lib.hid (HZ.out.trans (hV.mono HZ.out.size)); have YP9 := Lib.hid (YP8.out.keep hV); have YQ9 := Lib.hid (YQ8.out.keep hV); have ZP := Lib.hid x1; clear hV x1) | (go_at_call 20; refine (TEP.out _ _ _ _ _ YP9.out ZP.out).mono ?_; rintro e V10 ⟨rfl, hV⟩; have HZ10 := Lib.hid (HZ9.out.trans (hV.mono HZ9.out.size)); have YQ10 := Lib.hid (YQ9.out.keep hV); clear hV) | (go_at_call 39; refine (TQ.out _ (HQ.out.keep HZ10.out)).mono ?_; rintro e V11 ⟨b11, rfl, _, _, x1, hV⟩; have HZ11 := Lib.hid (HZ10.out.trans (hV.mono HZ10.out.size)); have YQ11 := Lib.hid (YQ10.out.keep hV); have ZQ := Lib.hid x1; clear hV x1) | (go_at_call 35; refine (TEQ.out _ _ _ _ _ YQ11.out ZQ.out).mono ?_; rintro e V12 ⟨rfl, hV⟩; have HZ12 := Lib.hid (HB.out.trans ((HZ11.out.trans (hV.mono HZ11.out.size)).mono HB.out.size)); clear hV))
  go_ret
  exact ⟨rfl, HZ12.out⟩
theorem fnExactCheckGrant_walk (H : Type) (enc : TypeId × Value → H) (W : World) (base : Nat) (args : Array Value) (ds : List (DataW H)) (ps : List MemPlace) (hn : args.size = Tryz.f8.params.size)
    (hv : ∀ (j : Nat) t v, Tryz.f8.params[j]? = some t → args[j]? = some v → Value.okWide Tryz.prog W .any base t v)
    (hA : DataW.TrodAll enc Tryz.prog W 0 (fun _ => true) true Tryz.f8.params.toList args.toList ds ps) (hT : TabAt W) :
    Calls Tryz.prog 8 args W fun e W' => e = .returned (.bool true) ∧ Below W.heap.size W W' := by
  rw [Tryz.params8] at hn hv hA
  obtain ⟨l⟩ := args
  match l, hn with
  | [v0, v1, v2], _ =>
    obtain ⟨u0, us, d0, ds', a0, a1, he, _, _, h0, h1⟩ := trodAll_cons hA
    cases he
    obtain ⟨u1, us1, d1, ds1, a2, a3, he, _, _, h2, h3⟩ := trodAll_cons h1
    cases he
    obtain ⟨G, pw, cw, Lw, rfl, hG, hLw, hpw, hokw⟩ := open_off (okWide_off (hv 0 _ v0 rfl rfl)) h0
    obtain ⟨p, c, L, rfl, hL, hp, hok⟩ := open_ps (okWide_slice Tryz.underlying31 (hv 1 _ v1 rfl rfl)) h2
    obtain ⟨u2, us2, d2, ds2, a4, a5, he, _, _, h4, _⟩ := trodAll_cons h3
    cases he
    obtain ⟨q3, c3, M, rfl, hMx, hq⟩ := open_is (okWide_slice Tryz.underlying62 (hv 2 _ v2 rfl rfl)) h4
    by_cases h6 : M.length ≤ 1048576
    case neg => exact fnExactCheckGrant_farM ⟨G, pw, Lw.length, cw⟩ _ q3 M.length c3 (by omega) hMx W
    by_cases h1 : Lw.length ≤ 1048576
    · by_cases h2 : L.length ≤ 1048576 - Lw.length
      · exact fnExactCheckGrant_near G pw cw Lw hG (fun e he => okT_T2 (hokw e he)) h1 p c L (fun e he => okP_PQ (hok e he)) h2 q3 c3 M h6 W hpw hp hq hT
      · exact fnExactCheckGrant_farP ⟨G, pw, Lw.length, cw⟩ p L.length c q3 M.length c3 h6 h1 (by show 1048576 - Lw.length < L.length; omega) hL W
    · exact fnExactCheckGrant_far ⟨G, pw, Lw.length, cw⟩ _ q3 M.length c3 h6 (by show 1048576 < Lw.length; omega) hLw W
end Go.Proofs.YtaghnminpfgdcaaGreatDoor
