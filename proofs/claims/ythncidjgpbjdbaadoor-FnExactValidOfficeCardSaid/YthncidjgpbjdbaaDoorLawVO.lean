/- The law FnExactValidOffice of this commit, its walk. Condition: the table of math/bits is laid. -/
import Derived.Test.YthncidjgpbjdbaaDoorOfV
namespace Go.Proofs.YthncidjgpbjdbaaDoor
open Go Go.ChangeShapes Go.WideShapes Go.ChangeAt Go.RowKit Go.Deep
set_option linter.unusedSimpArgs false
set_option linter.unusedVariables false
set_option maxRecDepth 100000
theorem szWatchS_yes (p : Option Addr) (n c l : Nat) (h : n ≤ l) (hl : l ≤ 1048576) (w : World) : Calls Tryd.prog 47 #[.slice p n c, .int .i64 (l : Int)] w fun e w' => e = .returned (.int .i64 ((l - n : Nat) : Int)) ∧ w' = w := by
  have e : ((l - n : Nat) : Int) = (l : Int) - n := by omega
  rw [e]
  go_enter Tryd.func47, Tryd.ntmps47
  go_wp2
  go_ret
  exact ⟨rfl, rfl⟩
theorem szWatchS_no (p : Option Addr) (n c l : Nat) (h : l < n) (hl : l ≤ 1048576) (hn : n ≤ maxLen) (w : World) : Calls Tryd.prog 47 #[.slice p n c, .int .i64 (l : Int)] w fun e w' => e = .returned (.int .i64 (-1)) ∧ w' = w := by
  unfold maxLen at hn
  go_enter Tryd.func47, Tryd.ntmps47
  go_wp2
  go_ret
  exact ⟨rfl, rfl⟩
set_option maxHeartbeats 1000000 in
theorem szOffice_yes (B : Ofc) (l : Nat) (h : B.n ≤ l) (hl : l ≤ 1048576) (w : World) : Calls Tryd.prog 13 #[.agg (OfA B), .int .i64 (l : Int)] w fun e w' => e = .returned (.int .i64 ((l - B.n : Nat) : Int)) ∧ Below w.heap.size w w' := by
  obtain ⟨W, hW, hs, b1, hB⟩ := obox1 B 30 w
  have s1 := b1.s
  have T := Lib.hid (fun V => szWatchS_yes B.p B.n B.c l h hl V)
  have HB := Lib.hid hB
  obtain ⟨A, hA⟩ : ∃ A, OfA B = A := ⟨_, rfl⟩
  rw [hA] at hW ⊢
  obtain ⟨m, hm⟩ : ∃ m, l - B.n = m := ⟨_, rfl⟩
  rw [hm] at T ⊢
  have hm2 : m ≤ 1048576 := by omega
  clear b1 hs hB hA h hm
  go_enter Tryd.func13, Tryd.ntmps13
  go_upto_region 1 with (fail)
  try rw [hW]
  clear hW
  go_wp2_with (go_at_call 47; refine (T.out _).mono ?_; rintro e V ⟨rfl, hV⟩; rw [hV]; clear hV)
  go_ret
  exact ⟨rfl, HB.out⟩
set_option maxHeartbeats 1000000 in
theorem szOffice_no (B : Ofc) (l : Nat) (h : l < B.n) (hl : l ≤ 1048576) (hn : B.n ≤ maxLen) (w : World) : Calls Tryd.prog 13 #[.agg (OfA B), .int .i64 (l : Int)] w fun e w' => e = .returned (.int .i64 (-1)) ∧ Below w.heap.size w w' := by
  obtain ⟨W, hW, hs, b1, hB⟩ := obox1 B 30 w
  have s1 := b1.s
  have T := Lib.hid (fun V => szWatchS_no B.p B.n B.c l h hl hn V)
  have HB := Lib.hid hB
  obtain ⟨A, hA⟩ : ∃ A, OfA B = A := ⟨_, rfl⟩
  rw [hA] at hW ⊢
  clear b1 hs hB hA h hn
  go_enter Tryd.func13, Tryd.ntmps13
  go_upto_region 1 with (fail)
  try rw [hW]
  clear hW
  go_wp2_with (go_at_call 47; refine (T.out _).mono ?_; rintro e V ⟨rfl, hV⟩; rw [hV]; clear hV)
  go_ret
  exact ⟨rfl, HB.out⟩
theorem stored_off (A : Ofc) (t : TypeId) (w : World) : ∃ U, (w.alloc (.cells (OfA zO) t)).setCells w.heap.size 0 (OfA A).toList = U ∧ U.heap.size = w.heap.size + 1 ∧ OfBox U w.heap.size A ∧ Below w.heap.size w U := by
  obtain ⟨W, h, hs, g, hB⟩ := obox1 zO t w
  rw [h]
  exact ⟨_, rfl, by rw [size_setCells, hs], g.store, below_setCells _ (Nat.le_refl _) _ _ _ hB⟩
theorem new_thereO (t : TypeId) (w : World) : (w.alloc (.cells (OfA zO) t)).there w.heap.size 0 196 := there_row (heap_alloc_last w _) (OfA_size zO)
theorem okT_T2 {e : T2} (h : okT e) : okT2 e := by
  unfold okT at h
  simp only [Lit.wf, IntKind.min, IntKind.max, IntKind.bits, IntKind.signed, Bool.and_eq_true, decide_eq_true_eq] at h
  simp at h
  exact h

set_option maxHeartbeats 2000000 in
theorem fnExactValidOffice_far (B : Ofc) (hn : 1048576 < B.n) (hx : B.n ≤ maxLen) (w : World) : Calls Tryd.prog 3 #[.agg (OfA B)] w fun e w' => e = .returned (.bool true) ∧ Below w.heap.size w w' := by
  obtain ⟨W, hW, hs, b1, hB⟩ := obox1 B 30 w
  have T := Lib.hid (fun V => szOffice_no B 1048576 hn (by omega) hx V)
  have r1 := b1.range
  have HB := Lib.hid hB
  clear hn hx b1 hs hB
  go_enter Tryd.func3, Tryd.ntmps3
  go_upto_region 1 with (fail)
  try rw [hW]
  clear hW
  go_wp2_with (first | (refine ldS 30 rfl ?_; refine wpList_load_mid rfl 30 _ rfl w.heap.size 0 rfl (OfL B) _ r1 Tryd.underlying30 rfl (by rw [OfL_length]; exact infoLOffice) ?_) | (go_at_call 13; refine (T.out _).mono ?_; rintro e V ⟨rfl, hV⟩; have HV := Lib.hid (HB.out.trans (hV.mono HB.out.size)); clear hV r1))
  go_ret
  exact ⟨rfl, HV.out⟩
set_option maxHeartbeats 4000000 in
theorem fnExactValidOffice_near (G : Gd) (p : Option Addr) (c : Nat) (L : List T2) (hG : GdOk G) (hO : ∀ e ∈ L, okT2 e) (hn : L.length ≤ 1048576) (w : World) (hp : TsAt w p L) (hT : TabAt w) : Calls Tryd.prog 3 #[.agg (OfA ⟨G, p, L.length, c⟩)] w fun e w' => e = .returned (.bool true) ∧ Below w.heap.size w w' := by
  have T := Lib.hid (fun V => szOffice_yes ⟨G, p, L.length, c⟩ 1048576 hn (by omega) V)
  have TO := Lib.hid (fun V (h : TsAt V p L) => toOffice_any G p c L hn V h)
  have TS := Lib.hid (fun (q : Option Addr) (d : Nat) V (h : TsAt V q L) => specValidOffice_any G q d L hn hO V h hG)
  have TI := Lib.hid (fun (q : Option Addr) (d : Nat) V (h : TsAt V q L) (ht : TabAt V) => implValidOffice_any G q d L hn hO V h hG ht)
  have TE := Lib.hid (fun (q r : Option Addr) (d d' : Nat) V (h : TsAt V q L) (h' : TsAt V r L) => eqOffice_yes G q r d d' L hn V h h')
  obtain ⟨r, hr⟩ : ∃ r, ofB G L = r := ⟨_, rfl⟩
  rw [hr] at TS TI
  obtain ⟨n, hnn⟩ : ∃ n, L.length = n := ⟨_, rfl⟩
  simp only [hnn] at T TO TS TI TE hn ⊢
  obtain ⟨l, hl⟩ : ∃ l, 1048576 - n = l := ⟨_, rfl⟩
  rw [hl] at T
  have hl2 : l ≤ 1048576 := by omega
  obtain ⟨W, hW, hs, b1, hB⟩ := obox1 ⟨G, p, n, c⟩ 30 w
  have HR := Lib.hid (fun V (hV : Below W.heap.size W V) => (b1.below hV (by omega)).range)
  have HB := Lib.hid hB
  have BX0 := Lib.hid (Below.refl W.heap.size W)
  have HP := Lib.hid (hp.keep hB)
  have HT := Lib.hid (hT.below hB (tab_lt hT))
  have HTL := Lib.hid (show 0 < W.heap.size by have := tab_lt hT; omega)
  have hz := (zero_of_info zeroOffice).1
  obtain ⟨A0, hA0⟩ : ∃ A0, OfA ⟨G, p, n, c⟩ = A0 := ⟨_, rfl⟩
  have r0 := HR.out W (Below.refl _ _)
  clear hr hnn hl hs b1 hB hp hT hG hO hn
  rw [hA0] at hW
  rw [hA0]
  have t1 : True := trivial
  have t2 : True := trivial
  go_enter Tryd.func3, Tryd.ntmps3
  go_upto_region 1 with (fail)
  try rw [hW]
  clear hW
  go_upto_region 5 with (first | (refine ldS 30 rfl ?_; refine wpList_load_mid rfl 30 _ rfl w.heap.size 0 rfl (OfL ⟨G, p, n, c⟩) _ r0 Tryd.underlying30 rfl (by rw [OfL_length]; exact infoLOffice) ?_) | (go_at_call 13; refine (T.out _).mono ?_; rintro e V0 ⟨rfl, hV⟩; have BX1 := Lib.hid hV; have r1 := HR.out V0 hV; clear hV r0))
  go_upto_region 6 with (first | (refine ldS 30 rfl ?_; refine wpList_load_mid rfl 30 _ rfl w.heap.size 0 rfl (OfL ⟨G, p, n, c⟩) _ r1 Tryd.underlying30 rfl (by rw [OfL_length]; exact infoLOffice) ?_) | (go_at_call 15; refine (TO.out _ (HP.out.keep BX1.out)).mono ?_; rintro e V1 ⟨b1, rfl, _, _, x1, hV⟩; have BX2 := Lib.hid (BX1.out.trans (hV.mono BX1.out.size)); have XA := Lib.hid x1; clear hV x1 r1) | (go_at_call 14; refine (TS.out _ _ _ XA.out).mono ?_; rintro e V2 ⟨rfl, hV⟩; have BX3 := Lib.hid (BX2.out.trans (hV.mono BX2.out.size)); clear hV))
  have r3 := HR.out V2 BX3.out
  go_upto_region 7 with (first | (refine ldS 30 rfl ?_; refine wpList_load_mid rfl 30 _ rfl w.heap.size 0 rfl (OfL ⟨G, p, n, c⟩) _ r3 Tryd.underlying30 rfl (by rw [OfL_length]; exact infoLOffice) ?_) | (go_at_call 15; refine (TO.out _ (HP.out.keep BX3.out)).mono ?_; rintro e V3 ⟨b2, rfl, hb1, hb2, x1, hV⟩; have BX4 := Lib.hid (BX3.out.trans (hV.mono BX3.out.size)); have YA := Lib.hid x1; have hth := new_thereO 38 V3; clear hV x1 r3) | (refine stS 38 rfl ?_; refine wpList_store_mid rfl 38 _ _ rfl _ 0 (OfA ⟨G, some ⟨b2, 0, none⟩, n, n⟩) rfl rfl (by rw [OfA_size]; with_reducible exact hth) (by rw [OfA_size]; exact infoOffice) (OfA_one _) ?_))
  obtain ⟨X, hX, zX, gX, bX⟩ := stored_off ⟨G, some ⟨b2, 0, none⟩, n, n⟩ 38 V3
  try rw [hX]
  have YB := Lib.hid (YA.out.keep bX)
  have BX5 := Lib.hid (BX4.out.trans (bX.mono BX4.out.size))
  obtain ⟨N, hN⟩ : ∃ N, V3.heap.size = N := ⟨_, rfl⟩
  rw [hN] at gX ⊢
  have HGX := Lib.hid (fun V (hV : Below X.heap.size X V) => (gX.below hV (by omega)).range)
  have HX0 := Lib.hid (Below.refl X.heap.size X)
  have r5 := HGX.out X HX0.out
  clear hX zX gX bX hth hN hz
  go_upto_region 10 with (first | (refine ldS 38 rfl ?_; refine wpList_load_mid rfl 38 _ rfl N 0 rfl (OfL ⟨G, some ⟨b2, 0, none⟩, n, n⟩) _ r5 Tryd.underlying38 rfl (by rw [OfL_length]; exact infoOffice) ?_) | (go_at_call 16; refine (TI.out _ _ _ YB.out (HT.out.below BX5.out HTL.out)).mono ?_; rintro e V6 ⟨rfl, hV⟩; have HX6 := Lib.hid hV; have YC := Lib.hid (YB.out.keep hV); have BX6 := Lib.hid (BX5.out.trans (hV.mono BX5.out.size)); clear hV r5))
  refine wp_region_plan (ops' := regOf Tryd.f3 10) (.take 0 (.take 1 (.run 2 (.run 3 (.take 4 .fin))))) (fun V => Below X.heap.size X V ∧ Below W.heap.size W V) (by kernel_rfl) (by kernel_rfl) (by kernel_rfl) (by kernel_rfl) (by kernel_rfl) ⟨HX6.out.drew, BX6.out.drew⟩ ?_
  refine plan_load (some 22) 38 (.tmp 5) N 0 _ _ (by kernel_rfl) (by kernel_rfl) (by kernel_rfl) (by kernel_rfl) (by kernel_rfl) (fun w' hw' => HGX.out w' hw'.1) Tryd.underlying38 rfl (by rw [OfL_length]; exact infoOffice) ?_
  refine plan_load (some 23) 30 (.tmp 1) w.heap.size 0 _ _ (by kernel_rfl) (by kernel_rfl) (by kernel_rfl) (by kernel_rfl) (by kernel_rfl) (fun w' hw' => HR.out w' hw'.2) Tryd.underlying30 rfl (by rw [OfL_length]; exact infoLOffice) ?_
  refine plan_call (some 24) 15 #[.agg (OfA ⟨G, p, n, c⟩)] (by kernel_rfl) (by kernel_rfl) (by kernel_rfl) (by kernel_rfl) (Calls.mono (TO.out _ (HP.out.keep BX6.out.drew)) ?_)
  rintro _ V7 ⟨b3, rfl, _, _, x3, h7⟩
  have HX7 := HX6.out.drew.trans (h7.mono HX6.out.drew.size)
  have BX7 := BX6.out.drew.trans (h7.mono BX6.out.drew.size)
  refine ⟨_, rfl, ⟨HX7, BX7⟩, ?_⟩
  refine plan_call (some 25) 17 #[.agg (OfA ⟨G, some ⟨b2, 0, none⟩, n, n⟩), .agg (OfA ⟨G, some ⟨b3, 0, none⟩, n, n⟩)] (by kernel_rfl) (by kernel_rfl) (by kernel_rfl) (by kernel_rfl) (Calls.mono (TE.out _ _ _ _ _ ((YC.out.keep ((Below.refl _ _).drew)).keep h7) x3) ?_)
  rintro _ V8 ⟨rfl, h8⟩
  have HX8 := HX7.trans (h8.mono HX7.size)
  have BX8 := BX7.trans (h8.mono BX7.size)
  refine ⟨_, rfl, ⟨HX8, BX8⟩, ?_⟩
  refine plan_pure (some 26) (.bool false) (by kernel_rfl) (by kernel_rfl) (by kernel_rfl) (fun _ => (by kernel_rfl)) ?_
  refine plan_end (NoPanic.normal ?_)
  simp only [Act.put, List.setIfInBounds_toArray, List.set_cons_zero, List.set_cons_succ]
  have HZ := Lib.hid (HB.out.trans (BX8.mono HB.out.size))
  clear HX7 BX7 HX8 BX8 h7 h8 x3
  go_wp2
  go_ret
  exact ⟨rfl, HZ.out⟩
theorem fnExactValidOffice_walk (H : Type) (enc : TypeId × Value → H) (W : World) (base : Nat) (args : Array Value) (ds : List (DataW H)) (ps : List MemPlace) (hn : args.size = Tryd.f3.params.size)
    (hv : ∀ (j : Nat) t v, Tryd.f3.params[j]? = some t → args[j]? = some v → Value.okWide Tryd.prog W .any base t v)
    (hA : DataW.TrodAll enc Tryd.prog W 0 (fun _ => true) true Tryd.f3.params.toList args.toList ds ps) (hT : TabAt W) :
    Calls Tryd.prog 3 args W fun e W' => e = .returned (.bool true) ∧ Below W.heap.size W W' := by
  rw [Tryd.params3] at hn hv hA
  obtain ⟨l⟩ := args
  match l, hn with
  | [v0], _ =>
    obtain ⟨u0, us, d0, ds', a0, a1, he, _, _, h0, h1⟩ := trodAll_cons hA
    cases he
    obtain ⟨G, p, c, L, rfl, hG, hL, hp, hok⟩ := open_off (okWide_off (hv 0 _ v0 rfl rfl)) h0
    by_cases h1 : L.length ≤ 1048576
    · exact fnExactValidOffice_near G p c L hG (fun e he => okT_T2 (hok e he)) h1 W hp hT
    · exact fnExactValidOffice_far ⟨G, p, L.length, c⟩ (by show 1048576 < L.length; omega) hL W
end Go.Proofs.YthncidjgpbjdbaaDoor
