/- The worst reading, the program's. Condition: the sentinels lie where they are laid. -/
import Derived.Test.YthacifhphoaioaaDoorWorR
namespace Go.Proofs.YthacifhphoaioaaDoor
open Go Go.RowKit Ieee
set_option linter.unusedSimpArgs false
set_option linter.unusedVariables false
attribute [local go_sem] run_store_f32

theorem run_neg_f32 (P : Program) (w : World) (k : FloatKind) (b : Nat) : (Op.unary .neg (.float k b)).run P w = .ok (.float k (Op.negFloat k b)) w := rfl
attribute [local go_sem] run_neg_f32
/-- A site and an aquifer lie in two blocks. -/
def TwoAt (T S R : Nat) (X Y x y : Int) (bs ba : Nat) (V : World) : Prop := V.cell? ⟨bs, 0, none⟩ = some (.int .i8 X) ∧ V.cell? ⟨bs, 1, none⟩ = some (.int .i8 Y) ∧ V.cell? ⟨bs, 2, none⟩ = some (.float .f32 R) ∧ V.cell? ⟨bs, 3, none⟩ = some (.int .i8 x) ∧ V.cell? ⟨bs, 4, none⟩ = some (.int .i8 y) ∧ V.cell? ⟨ba, 0, none⟩ = some (.float .f32 T) ∧ V.cell? ⟨ba, 1, none⟩ = some (.float .f32 S)
theorem TwoAt.keep {T S R : Nat} {X Y x y : Int} {bs ba n : Nat} {V V' : World} (h : TwoAt T S R X Y x y bs ba V) (hb : Below n V V') (h1 : bs < n) (h2 : ba < n) : TwoAt T S R X Y x y bs ba V' := by
  obtain ⟨c0, c1, c2, c3, c4, c5, c6⟩ := h
  exact ⟨(hb.cell (p := ⟨bs, 0, none⟩) h1).trans c0, (hb.cell (p := ⟨bs, 1, none⟩) h1).trans c1, (hb.cell (p := ⟨bs, 2, none⟩) h1).trans c2, (hb.cell (p := ⟨bs, 3, none⟩) h1).trans c3, (hb.cell (p := ⟨bs, 4, none⟩) h1).trans c4, (hb.cell (p := ⟨ba, 0, none⟩) h2).trans c5, (hb.cell (p := ⟨ba, 1, none⟩) h2).trans c6⟩

set_option maxRecDepth 100000 in
set_option maxHeartbeats 4000000 in
theorem worst1_any (X Y : Int) (R : Nat) (x y : Int) (T S : Nat) (t l : Int) (hT : 981467136 ≤ T ∧ T ≤ 1233125376) (hS : 897581056 ≤ S ∧ S ≤ 1065353216) (hdx : -100 ≤ X ∧ X ≤ 100) (hdy : -100 ≤ Y ∧ Y ≤ 100) (hx : -100 ≤ x ∧ x ≤ 100) (hy : -100 ≤ y ∧ y ≤ 100) (ht : 1 ≤ t ∧ t ≤ 100000) (bs ba : Nat) (w : World) (hA : TwoAt T S R X Y x y bs ba w) (h1 : bs < w.heap.size) (h2 : ba < w.heap.size) :
    Calls Tryd.prog 86 #[.agg (Rd t l), .pointer (some ⟨bs, 0, none⟩), .pointer (some ⟨ba, 0, none⟩)] w (GvB (negO (sizeO (dfO l (drwV T S R (x - X) (y - Y) t)))) w) := by
  have T1 := fun V => siteDifference_any X Y R x y T S t l hT hS hdx hdy hx hy ht V
  have BA : Below w.heap.size w (w.alloc (.cells (Rd t l) 82)) := (Below.refl _ _).alloc (Nat.le_refl _) _
  have hrow := heap_alloc_last w (.cells (Rd t l) 82)
  have c0 := cell_of_row _ _ 0 _ _ _ hrow
  have c1 := cell_of_row _ _ 1 _ _ _ hrow
  obtain ⟨s0, s1, s2, s3, s4, a0, a1⟩ := hA.keep BA h1 h2
  have n1 : bs ≠ w.heap.size := by omega
  have n2 : ba ≠ w.heap.size := by omega
  have HB := Lib.hid BA
  clear BA hrow hA
  simp only [Ste, Aq, Rd] at T1 HB c0 c1 s0 s1 s2 s3 s4 a0 a1 ⊢
  go_enter Tryd.func86, Tryd.ntmps86
  go_wp2_with (first | (go_at_call 88; refine (T1 _).mono ?_; rintro q1 V1 ⟨d, rfl, hd, hq1⟩; have HD := Lib.hid hd; have Q1 := Lib.hid (HB.out.trans (hq1.mono HB.out.size)); clear hd hq1) | (go_at_call 87; refine (sizeOf_any d _).mono ?_; rintro q2 V2 ⟨g, rfl, hg, hq2⟩; have HG := Lib.hid hg; have Q2 := Lib.hid (Q1.out.trans (hq2.below _)); clear hg hq2))
  go_ret
  exact ⟨_, rfl, by rw [num_neg, HG.out, HD.out], Q2.out⟩
set_option maxRecDepth 100000 in
set_option maxHeartbeats 4000000 in
theorem worstI_any {s : Nat → Addr} (T S : Nat) (X Y : Int) (R : Nat) (x y : Int) (p : Option Addr) (c : Nat) (L : List R2) (hT : T < 4294967296) (hS2 : S < 4294967296) (hL : L.length ≤ 1048576) (hX : -128 ≤ X ∧ X ≤ 127) (hY : -128 ≤ Y ∧ Y ≤ 127) (hx : -128 ≤ x ∧ x ≤ 127) (hy : -128 ≤ y ∧ y ≤ 127) (w : World) (hp : RsAt w p L) (hS : Sents w s) :
    Calls Tryd.prog 62 #[.agg (Aq T S), .agg (Ste X Y R x y), .slice p L.length c] w fun e w' => ∃ r, e = .returned (.tuple #[.int .i64 (worI (askB T S X Y R x y L) L.length (flI (mjO T S R X Y x y L) L.length) : Nat), .float .f32 r, erV s (worK (askB T S X Y R x y L) L.length)]) ∧ num .f32 r = worO (askB T S X Y R x y L) L.length (djO T S R X Y x y L (flI (mjO T S R X Y x y L) L.length)) ∧ Below w.heap.size w w' := by
  obtain ⟨z, b0, b1, B0⟩ := laid2 w (.cells (Aq T S) 34) (.cells (Ste X Y R x y) 38)
  obtain ⟨W, hW⟩ : ∃ W, (w.alloc (.cells (Aq T S) 34) |>.alloc (.cells (Ste X Y R x y) 38)) = W := ⟨_, rfl⟩
  rw [hW] at z b0 b1 B0
  have BA := B0.alloc B0.size (.cells #[.float .f32 T, .float .f32 S] 34)
  have hrow := heap_alloc_last W (.cells #[.float .f32 T, .float .f32 S] 34)
  have T1 := checkTest_any T S X Y R x y p c W.heap.size 1 L hL hX hY hx hy _ (hp.keep BA) (hS.keep BA) (cell_of_row _ _ 0 _ _ _ hrow) (cell_of_row _ _ 1 _ _ _ hrow) (by simp)
  have BW := Lib.hid B0
  have BAH := Lib.hid ((Below.refl W.heap.size W).alloc (Nat.le_refl _) (.cells #[.float .f32 T, .float .f32 S] 34))
  have HP := Lib.hid hp
  have HS := Lib.hid hS
  have r0 := rangeAt_row b0
  have r1 := rangeAt_row b1
  have R0 := Lib.hid r0
  have R1 := Lib.hid r1
  have ZW := Lib.hid z
  have tw : TwoAt T S R X Y x y (w.heap.size + 1) w.heap.size W := ⟨cell_of_row _ _ 0 _ _ _ b1, cell_of_row _ _ 1 _ _ _ b1, cell_of_row _ _ 2 _ _ _ b1, cell_of_row _ _ 3 _ _ _ b1, cell_of_row _ _ 4 _ _ _ b1, cell_of_row _ _ 0 _ _ _ b0, cell_of_row _ _ 1 _ _ _ b0⟩
  have TW := Lib.hid tw
  obtain ⟨s0, s1, s2, s3, s4, s5, s6⟩ := tw
  clear B0 hp hS hrow BA z b0 b1 r0 r1
  cases hk : askB T S X Y R x y L
  · rw [hk] at T1
    obtain ⟨n, hn⟩ : ∃ n, L.length = n := ⟨_, rfl⟩
    obtain ⟨i0, hi0⟩ : ∃ i, flI (mjO T S R X Y x y L) L.length = i := ⟨_, rfl⟩
    obtain ⟨o, ho⟩ : ∃ o, djO T S R X Y x y L (flI (mjO T S R X Y x y L) L.length) = o := ⟨_, rfl⟩
    rw [ho, hi0]
    rw [hn] at hL T1 ⊢
    have HE := Lib.hid (show Value.iface 192 (.pointer (some (s 0))) = erV s (worK false n) from rfl)
    clear hn hk ho hi0
    simp only [askK, erV, Bool.false_eq_true, if_false] at T1
    simp only [Aq, Ste] at T1 hW ⊢
    go_enter Tryd.func62, Tryd.ntmps62
    go_upto_region 1 with (fail)
    try rw [hW]
    clear hW
    go_wp2_with (go_at_call 68; refine T1.mono ?_; rintro e V1 ⟨rfl, hq1⟩; have Q1 := Lib.hid (BW.out.trans ((BAH.out.trans (hq1.mono BAH.out.size)).mono BW.out.size)); clear hq1)
    go_ret3
    exact ⟨0, by first | (rw [← HE.out]; done) | (rw [← HE.out]; rfl), rfl, Q1.out⟩
  rw [hk] at T1
  obtain ⟨p1, p2, p3, p4, p5, p6, p7⟩ := ask_parts hT hS2 hk
  have OKR := Lib.hid (fun k e he => okRs_time p7 k e he)
  have TD := Lib.hid (fun (t l : Int) (ht : 1 ≤ t ∧ t ≤ 100000) (V : World) => siteDifference_any X Y R x y T S t l p1 p2 p3 p4 p5 p6 ht V)
  have TF := Lib.hid (fun (h0 : 0 < L.length) (V : World) (hV : Below W.heap.size W V) => flR_any p c L h0 hL (w.heap.size + 1) w.heap.size (mjO T S R X Y x y L) V (HP.out.keep (BW.out.trans (hV.mono BW.out.size))) (fun j e he w' hw' => by
    have hz := ZW.out
    have hs := hV.size
    have hs2 := hw'.size
    have h := worst1_any X Y R x y T S e.1 e.2 p1 p2 p3 p4 p5 p6 (OKR.out j e he) (w.heap.size + 1) w.heap.size w' ((TW.out.keep hV (by omega) (by omega)).keep hw' (by omega) (by omega)) (by omega) (by omega)
    rw [show mjO T S R X Y x y L j = negO (sizeO (djO T S R X Y x y L j)) from rfl, djO_at he]
    exact h))
  simp only [askK, erV, if_true] at T1
  obtain ⟨n, hn⟩ : ∃ n, L.length = n := ⟨_, rfl⟩
  have HN := Lib.hid hn
  rw [hn] at hL T1 TF ⊢
  clear hn hk p7
  rcases Nat.eq_zero_or_pos n with h0 | h0
  · subst h0
    have G : ∀ V, Below w.heap.size w V → V.cell? ⟨4, 0, none⟩ = some (.iface 192 (.pointer (some (s 4)))) := fun V hV => (HS.out.keep hV).cell 4 (by decide)
    have HE := Lib.hid (show Value.iface 192 (.pointer (some (s 4))) = erV s (worK true 0) from rfl)
    clear TF TD OKR
    simp only [Aq, Ste] at T1 hW ⊢
    go_enter Tryd.func62, Tryd.ntmps62
    go_upto_region 1 with (fail)
    try rw [hW]
    clear hW
    go_wp2_with (go_at_call 68; refine T1.mono ?_; rintro e V1 ⟨rfl, hq1⟩; have Q1 := Lib.hid (BW.out.trans ((BAH.out.trans (hq1.mono BAH.out.size)).mono BW.out.size)); have g4 := G V1 Q1.out; clear hq1 G)
    go_quiet (fail)
    go_wp2
    go_ret3
    exact ⟨0, by first | (rw [← HE.out]; done) | (rw [← HE.out]; rfl), rfl, belowN Q1.out _⟩
  · have hn1 : ¬ n = 0 := by omega
    have hn2 : ¬ (n : Int) = 0 := by omega
    have hn3 : ((n : Int) == 0) = false := by simp; omega
    have HE := Lib.hid (show Value.nilIface = erV s (worK true n) by unfold worK; rw [if_pos rfl, if_neg hn1]; rfl)
    have HI := Lib.hid (show ∀ i, worI true n i = i from fun i => by unfold worI; rw [if_pos rfl, if_neg hn1])
    have HO := Lib.hid (show ∀ o, worO true n o = o from fun o => by unfold worO; rw [if_pos rfl, if_neg hn1])
    have hq0 := flI_lt (mjO T S R X Y x y L) n h0
    have TG := Lib.hid (TF.out h0)
    obtain ⟨q, hq⟩ : ∃ q, flI (mjO T S R X Y x y L) n = q := ⟨_, rfl⟩
    rw [hq] at hq0 TG ⊢
    obtain ⟨e, he⟩ : ∃ e, L[q]? = some e := ⟨_, List.getElem?_eq_getElem (by rw [HN.out]; exact hq0)⟩
    obtain ⟨b, o, rfl, _⟩ := HP.out q e he
    clear hq TF
    simp only [Aq, Ste] at T1 hW ⊢
    go_enter Tryd.func62, Tryd.ntmps62
    go_upto_region 1 with (fail)
    try rw [hW]
    clear hW
    go_upto_region 7 with (first | (go_at_call 68; refine T1.mono ?_; rintro e V1 ⟨rfl, hq1⟩; have Q1 := Lib.hid (BAH.out.trans (hq1.mono BAH.out.size)); clear hq1 s0 s1 s2 s3 s4 s5 s6) | (go_at_call 85; refine (TG.out _ Q1.out).mono ?_; rintro e V2 ⟨rr, rfl, hrr, hq2⟩; have Q2 := Lib.hid (Q1.out.trans (hq2.mono Q1.out.size)); clear hrr hq2))
    have zw := ZW.out
    have zz := Q2.out.size
    have r0 := range_kept R0.out (by omega) _ Q2.out
    have r1 := range_kept R1.out (by omega) _ Q2.out
    obtain ⟨b', o', hbo, hr⟩ := (HP.out.keep (BW.out.trans (Q2.out.mono BW.out.size))) q e he
    cases hbo
    have hbl := World.block_lt_of_cell? _ _ (hr 0 _ rfl)
    have hte := OKR.out q e he
    have hq := hq0
    refine wp_region_calm (ops' := regOf Tryd.f62 7) [0, 1, 2, 3, 4, 5, 6, 7, 8, 9, 10] [] .fin (Below (V2.heap.size) V2) [(0, One (.int .i64 (q : Int))), (1, One (.agg (Ste X Y R x y))), (2, One (.agg (Aq T S))), (3, One (.slice (some ⟨b, o, none⟩) n c)), (4, One (.int .i64 (q : Int))), (5, One (.pointer (some ⟨b, (o + q * 2), none⟩))), (6, One (.agg (Rd e.1 e.2))), (7, Numv .f32 (dfO e.2 (drwV T S R (x - X) (y - Y) e.1))), (8, One (.int .i64 (q : Int))), (9, Numv .f32 (dfO e.2 (drwV T S R (x - X) (y - Y) e.1))), (10, One (.nilIface))] (by kernel_rfl) (by kernel_rfl) (by kernel_rfl) (by kernel_rfl) (by kernel_rfl) (by kernel_rfl) (by kernel_rfl) (by kernel_rfl) rfl ((Below.refl _ _).drew) ?_
    refine calm_pure (some 30) (by kernel_rfl) (by kernel_rfl) (by kernel_rfl) (fun _ => by kernel_rfl) ?_
    refine calm_load (some 31) 38 (.tmp 4) ((w.heap.size + 1)) 0 _ (by kernel_rfl) (by kernel_rfl) (by kernel_rfl) (by kernel_rfl) (by kernel_rfl) (range_kept r1 (by omega)) Tryd.underlying38 rfl (by kernel_rfl) ?_
    refine calm_load (some 32) 34 (.tmp 3) (w.heap.size) 0 _ (by kernel_rfl) (by kernel_rfl) (by kernel_rfl) (by kernel_rfl) (by kernel_rfl) (range_kept r0 (by omega)) Tryd.underlying34 rfl (by kernel_rfl) ?_
    refine calm_pure (some 33) (by kernel_rfl) (by kernel_rfl) (by kernel_rfl) (fun _ => by kernel_rfl) ?_
    refine calm_pure (some 34) (by kernel_rfl) (by kernel_rfl) (by kernel_rfl) (fun _ => by kernel_rfl) ?_
    refine calm_pure (some 35) (by kernel_rfl) (by kernel_rfl) (by kernel_rfl) (fun _ => (index_rd (T := 31) (k := q) (n := n) (c := c) (x := .tmp 33) (y := .tmp 34) (by kernel_rfl) (.inl rfl) (by kernel_rfl) (by kernel_rfl) hq _)) ?_
    refine calm_load (some 36) 82 (.tmp 35) (b) (o + q * 2) _ (by kernel_rfl) (by kernel_rfl) (by kernel_rfl) (by kernel_rfl) (by kernel_rfl) (range_kept hr hbl) Tryd.underlying82 rfl (by kernel_rfl) ?_
    refine calm_call (some 37) 88 #[.agg (Ste X Y R x y), .agg (Aq T S), .agg (Rd e.1 e.2)] (numv_ne (dfD_ex e)) (by kernel_rfl) (by kernel_rfl) (by kernel_rfl) (fun _ => by kernel_rfl) (fun w' hw' => (TD.out e.1 e.2 hte w').mono fun e w2 ⟨r, he, hr, hq⟩ => ⟨_, he, ⟨r, rfl, hr⟩, below_step hw' hq (by have := hw'.size; omega)⟩) ?_
    rintro _ ⟨d0, rfl, hd0⟩
    refine calm_pure (some 6) (by kernel_rfl) (by kernel_rfl) (by kernel_rfl) (fun _ => by kernel_rfl) ?_
    refine calm_pureV (some 7) (.float .f32 d0) ⟨_, rfl, hd0⟩ (by kernel_rfl) (by kernel_rfl) (by kernel_rfl) (fun _ => by kernel_rfl) ?_
    rintro _ ⟨r7, rfl, hr7⟩
    refine calm_pure (some 8) (by kernel_rfl) (by kernel_rfl) (by kernel_rfl) (fun _ => by kernel_rfl) ?_
    refine calm_end fun w' hw' => plan_end (Clean.normal ?_)
    simp only [Act.put, List.setIfInBounds_toArray, List.set_cons_zero, List.set_cons_succ]
    go_wp2
    go_ret3
    exact ⟨r7, by rw [HI.out, ← HE.out]; rfl, by rw [HO.out, djO_at he]; exact hr7, BW.out.trans ((Q2.out.trans (hw'.mono Q2.out.size)).mono BW.out.size)⟩
set_option maxRecDepth 100000 in
set_option maxHeartbeats 4000000 in
theorem implWor_any {s : Nat → Addr} (T S : Nat) (X Y : Int) (R : Nat) (x y : Int) (p : Option Addr) (c : Nat) (L : List R2) (hT : T < 4294967296) (hS2 : S < 4294967296) (hL : L.length ≤ 1048576) (hX : -128 ≤ X ∧ X ≤ 127) (hY : -128 ≤ Y ∧ Y ≤ 127) (hx : -128 ≤ x ∧ x ≤ 127) (hy : -128 ≤ y ∧ y ≤ 127) (w : World) (hp : RsAt w p L) (hS : Sents w s) :
    Calls Tryd.prog 27 #[.agg (Aq T S), .agg (Ste X Y R x y), .slice p L.length c] w fun e w' => WorV T S R X Y x y L e ∧ Below w.heap.size w w' := by
  obtain ⟨W, hW, B0, LD⟩ := two_rows T S X Y R x y w
  have T1 := worstI_any (s := s) T S X Y R x y p c L hT hS2 hL hX hY hx hy W (hp.keep B0) (hS.keep B0)
  have BW := Lib.hid B0
  have HS := Lib.hid hS
  obtain ⟨s0, s1, s2, s3, s4, s5, s6⟩ := LD W (Below.refl _ _)
  have HV := Lib.hid (show ∀ r, num .f32 r = worO (askB T S X Y R x y L) L.length (djO T S R X Y x y L (flI (mjO T S R X Y x y L) L.length)) → WorV T S R X Y x y L (.returned (.tuple #[.int .i64 (worI (askB T S X Y R x y L) L.length (flI (mjO T S R X Y x y L) L.length) : Nat), .float .f32 r, .int .i64 (codeE (worK (askB T S X Y R x y L) L.length))])) from fun r hr => ⟨r, rfl, hr⟩)
  obtain ⟨k, hk⟩ : ∃ k, worK (askB T S X Y R x y L) L.length = k := ⟨_, rfl⟩
  have hk5 : ∀ i, k = some i → i < 5 := by rw [← hk]; exact worK_lt
  have HK := Lib.hid hk5
  rw [hk] at T1 HV
  obtain ⟨i0, hi0⟩ : ∃ i, worI (askB T S X Y R x y L) L.length (flI (mjO T S R X Y x y L) L.length) = i := ⟨_, rfl⟩
  rw [hi0] at T1 HV
  obtain ⟨o, ho⟩ : ∃ o, worO (askB T S X Y R x y L) L.length (djO T S R X Y x y L (flI (mjO T S R X Y x y L) L.length)) = o := ⟨_, rfl⟩
  rw [ho] at T1 HV
  obtain ⟨n, hn⟩ : ∃ n, L.length = n := ⟨_, rfl⟩
  rw [hn] at T1 hL ⊢
  clear hk ho hi0 hS hk5 hp B0 LD hn
  simp only [Aq, Ste] at T1 hW ⊢
  go_enter Tryd.func27, Tryd.ntmps27
  go_upto_region 1 with (fail)
  try rw [hW]
  clear hW
  go_wp2_with (first | (go_at_call 62; refine T1.mono ?_; rintro e V1 ⟨r, rfl, hr, hq1⟩; have Q1 := Lib.hid (BW.out.trans (hq1.mono BW.out.size)); have HR := Lib.hid hr; clear hq1 hr T1) | (go_at_call 51; refine (codeOf_any k HK.out _ (HS.out.keep Q1.out)).mono ?_; rintro e V2 ⟨rfl, hV⟩; rw [hV]; clear hV))
  go_ret3
  exact ⟨HV.out r HR.out, Q1.out⟩
end Go.Proofs.YthacifhphoaioaaDoor
