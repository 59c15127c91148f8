/- CheckGrant, the program's. Condition: the table of math/bits is laid. -/
import Derived.Test.YtaghnminpfgdcaaGreatDoorCkg
namespace Go.Proofs.YtaghnminpfgdcaaGreatDoor
open Go Go.RowKit
set_option linter.unusedSimpArgs false
set_option linter.unusedVariables false
attribute [local go_sem] Oper.semAt_some

set_option maxRecDepth 100000 in
set_option maxHeartbeats 2000000 in
theorem implCk_any (G : Gd) (pw : Option Addr) (cw : Nat) (Lw : List T2) (hLw : Lw.length ≤ 1048576) (hOw : ∀ e ∈ Lw, okT2 e) (p : Option Addr) (c : Nat) (L : List P3) (hL : L.length ≤ 1048576) (hO : ∀ e ∈ L, okPQ e) (q : Option Addr) (d : Nat) (M : List Int) (hM : M.length ≤ 1048576) (w : World) (hpw : TsAt w pw Lw) (hp : PsAt w p L) (hq : IsAt w q M) (hG : GdOk G) (hT : TabAt w) :
    Calls Tryz.prog 40 #[.agg (OfA ⟨G, pw, Lw.length, cw⟩), .slice p L.length c, .slice q M.length d] w fun e w' => e = .returned (.tuple #[.bool (ckV G Lw L M).1, .int .i64 (ckV G Lw L M).2]) ∧ Below w.heap.size w w' := by
  obtain ⟨W, hW, hs, b1, hB⟩ := obox1 ⟨G, pw, Lw.length, cw⟩ 41 w
  have T := implValidPermits_any G pw cw Lw hLw hOw p c L hL hO W (hpw.keep hB) (hp.keep hB) hG (hT.below hB (tab_lt hT))
  have HB := Lib.hid hB
  have r1 := b1.range
  cases hpr : prmB G Lw L
  · rw [hpr] at T
    have T := Lib.hid T
    rw [ckV_no M hpr]
    obtain ⟨m, hm⟩ : ∃ m, Lw.length = m := ⟨_, rfl⟩
    rw [hm] at hW r1 T ⊢
    obtain ⟨n, hn⟩ : ∃ n, L.length = n := ⟨_, rfl⟩
    rw [hn] at T ⊢
    obtain ⟨z, hz⟩ : ∃ z, M.length = z := ⟨_, rfl⟩
    rw [hz]
    clear b1 hs hp hB hm hn hpw hOw hO hpr hz hq
    go_enter Tryz.func40, Tryz.ntmps40
    go_upto_region 1 with (fail)
    try rw [hW]
    clear hW
    go_wp2_with (first | (refine ld_stage 41 rfl ?_; refine wpList_load_mid rfl 41 _ rfl (w.heap.size) 0 rfl (OfL ⟨G, pw, m, cw⟩) _ r1 Tryz.underlying41 rfl (by rw [OfL_length]; exact infoOffice) ?_) | (go_at_call 64; refine T.out.mono ?_; rintro e V ⟨rfl, hV⟩; have HV := Lib.hid (HB.out.trans (hV.mono HB.out.size)); clear hV))
    go_ret2
    exact ⟨rfl, HV.out⟩
  · obtain ⟨hv, hL6, hpm, hm6, hwt⟩ := prm_is hpr
    rw [hpr] at T
    have T := Lib.hid T
    have hl : w.heap.size < W.heap.size := by omega
    have PP := Lib.hid (hp.keep hB)
    have TK := Lib.hid (fun (bm : Nat) (p1 : Option Addr) (c1 : Nat) (p2 : Option Addr) (c2 : Nat) (J : List Nat) (hJ : Asc L.length J) (es : Array MapEntry) (clock : Nat) V (h : Below W.heap.size W V) (hc : ChAt V p1 p2 (idxI J) (selL L J)) (hm : V.heap[bm]? = some (.map es clock)) (hM : MapK (Kfm G Lw L) es.toList) => keeps_any G pw cw Lw hLw hOw w.heap.size bm p1 c1 p2 c2 J.length (idxI J) (selL L J) (idxI_len J) (selL_len L J) (by have := hJ.len; omega) (idxI_in hJ hL6) (fun e he => hO e (selL_mem hJ e he)) (prmB_sel hpr hJ) (Kfm G Lw L) (kfm_is hL6 hv hG hpm hJ) es clock V (b1.below h hl) ((hpw.keep hB).keep h) hG ((hT.below hB (tab_lt hT)).below h (Nat.lt_of_lt_of_le (tab_lt hT) hB.size)) hc hm hM)
    rw [ckV_yes M hpr]
    have HQM := Lib.hid (fun V (h : Below W.heap.size W V) => (hq.keep hB).keep h)
    have TA := Lib.hid (fun V (h : Below W.heap.size W V) => areInd_any q d M hM L.length hL V ((hq.keep hB).keep h))
    have TN := Lib.hid (fun (x : Int) V (h : Below W.heap.size W V) => scon_any q d M hM x V ((hq.keep hB).keep h))
    have HNOI := Lib.hid (fun (h : ascF L.length (-1) M = false) => ck_noind (G := G) (Lw := Lw) (L := L) h)
    have HDIF := Lib.hid (fun (k : Nat) (hk : k < L.length) (h : keptB G Lw (selL L (grJ G Lw L k ++ [k])) ≠ decide ((k : Int) ∈ M)) => ck_diff hk h)
    have HSAM := Lib.hid (fun (ha : ascF L.length (-1) M = true) (h : ∀ k, k < L.length → keptB G Lw (selL L (grJ G Lw L k ++ [k])) = decide ((k : Int) ∈ M)) => ck_same ha h)
    obtain ⟨R, hR⟩ : ∃ R, decide (idxI (grJ G Lw L L.length) = M) = R := ⟨_, rfl⟩
    rw [hR] at HNOI HDIF HSAM ⊢
    obtain ⟨m, hm⟩ : ∃ m, Lw.length = m := ⟨_, rfl⟩
    rw [hm] at hW r1 T ⊢
    obtain ⟨n, hn⟩ : ∃ n, L.length = n := ⟨_, rfl⟩
    have HN := Lib.hid hn
    rw [hn] at T TK TA HNOI HDIF HSAM hL6 ⊢
    obtain ⟨z, hz⟩ : ∃ z, M.length = z := ⟨_, rfl⟩
    rw [hz] at TA TN ⊢
    obtain ⟨ab, hab⟩ : ∃ ab, ascF n (-1) M = ab := ⟨_, rfl⟩
    rw [hab] at TA HNOI HSAM
    clear b1 hs hp hB hm hn hpw hOw hO hpr hv hpm hm6 hwt hL hLw hG hT hl hR hz hab hq hM
    go_enter Tryz.func40, Tryz.ntmps40
    go_upto_region 1 with (fail)
    try rw [hW]
    clear hW
    cases ab
    · go_wp2_with (first | (refine ld_stage 41 rfl ?_; refine wpList_load_mid rfl 41 _ rfl (w.heap.size) 0 rfl (OfL ⟨G, pw, m, cw⟩) _ r1 Tryz.underlying41 rfl (by rw [OfL_length]; exact infoOffice) ?_) | (go_at_call 64; refine T.out.mono ?_; rintro e V ⟨rfl, hV⟩; have HV := Lib.hid hV; clear hV) | (go_at_call 70; refine (TA.out _ HV.out).mono ?_; rintro e V1 ⟨rfl, hV⟩; have HV1 := Lib.hid (HV.out.trans (hV.mono HV.out.size)); clear hV))
      go_ret2
      exact ⟨by rw [HNOI.out (by trivial)]; rfl, HB.out.trans (HV1.out.mono HB.out.size)⟩
    go_upto_region 6 with (first | (refine ld_stage 41 rfl ?_; refine wpList_load_mid rfl 41 _ rfl (w.heap.size) 0 rfl (OfL ⟨G, pw, m, cw⟩) _ r1 Tryz.underlying41 rfl (by rw [OfL_length]; exact infoOffice) ?_) | (go_at_call 64; refine T.out.mono ?_; rintro e V ⟨rfl, hV⟩; have HV := Lib.hid hV; clear hV) | (go_at_call 70; refine (TA.out _ HV.out).mono ?_; rintro e V1 ⟨rfl, hV⟩; have HV1 := Lib.hid (HV.out.trans (hV.mono HV.out.size)); clear hV) | (go_at_call 66; refine (clerkOf_any w.heap.size _).mono ?_; rintro e V2 ⟨bm, rfl, hbm, hm2, hV2⟩; simp only [Ckv]))
    obtain ⟨X, hX, zX, rX, tX, kX, bX⟩ := gi_boxes w.heap.size bm V2
    simp only [Ckv, Chv] at hX rX kX
    rw [hX]
    have hWX : Below W.heap.size W X := HV1.out.trans ((hV2.trans (bX.mono hV2.size)).mono HV1.out.size)
    have HX := Lib.hid hWX
    have hlm : bm < V2.heap.size := (Array.getElem?_eq_some_iff.1 hm2).1
    have HMX := Lib.hid (show ∃ es clock, X.heap[bm]? = some (.map es clock) ∧ MapK (Kfm G Lw L) es.toList from ⟨#[], 0, (bX.block bm hlm).trans hm2, fun e he => by simp at he⟩)
    have hWb : W.heap.size ≤ bm := Nat.le_trans HV1.out.size hbm
    obtain ⟨b6, hb6⟩ : ∃ b6, V2.heap.size = b6 := ⟨_, rfl⟩
    rw [hb6] at rX zX tX kX hlm
    try simp only [hb6]
    have RX := Lib.hid (show X.rangeAt b6 0 (Chv none 0 none 0 0).toList ∧ X.there b6 0 2 from ⟨rX, tX⟩)
    have KX := Lib.hid (show X.rangeAt (b6 + 1) 0 (Ckv w.heap.size bm).toList ∧ b6 + 1 < X.heap.size from ⟨kX, by omega⟩)
    have HWb := Lib.hid hWb
    have HLM := Lib.hid hlm
    clear hX zX rX tX kX bX hV2 hm2 hWX hb6 hbm hWb hlm T HV HV1 TA HNOI
    go_upto_region 7 with (fail)
    go_loopw [28] (fun i wr => ∃ (k mm d1 d2 : Nat) (q1 q2 : Option Addr), k ≤ n ∧ i = .int .i64 (k : Int) ∧ Hid ((grJ G Lw L k).length = mm ∧ mm ≤ d1 ∧ mm ≤ d2) ∧ Hid (wr.rangeAt b6 0 (Chv q1 d1 q2 d2 mm).toList ∧ wr.there b6 0 2) ∧ Hid (wr.rangeAt (b6 + 1) 0 (Ckv w.heap.size bm).toList ∧ b6 + 1 < wr.heap.size) ∧ Hid (∃ es clock, wr.heap[bm]? = some (.map es clock) ∧ MapK (Kfm G Lw L) es.toList) ∧ Hid (ChAt wr q1 q2 (idxI (grJ G Lw L k)) (selL L (grJ G Lw L k))) ∧ Hid ((∀ g, q1 = some ⟨g, 0, none⟩ → b6 + 1 < g ∧ g < wr.heap.size ∧ wr.there g 0 mm) ∧ ∀ g, q2 = some ⟨g, 0, none⟩ → b6 + 1 < g) ∧ Hid (Below W.heap.size W wr) ∧ Hid (∀ j : Nat, j < k → keptB G Lw (selL L (grJ G Lw L j ++ [j])) = decide ((j : Int) ∈ M))) (fun i _ => n - (intOf i).toNat)
    case atStart => exact ⟨0, 0, 0, 0, none, none, by omega, rfl, Lib.hid ⟨rfl, by omega, by omega⟩, RX, KX, HMX, Lib.hid ⟨.inl ⟨rfl, rfl⟩, .inl ⟨rfl, rfl⟩⟩, Lib.hid ⟨fun g h => (by cases h), fun g h => (by cases h)⟩, HX, Lib.hid (fun j hj => absurd hj (by omega))⟩
    case round =>
      obtain ⟨k, mm, d1, d2, q1, q2, hk, rfl, hlen, hr6, hr7, hmap, hch, hq, hb, hag⟩ := hrel
      by_cases hlt : k < n
      · have hki : (k : Int) < n := by omega
        obtain ⟨e, he⟩ : ∃ e, L[k]? = some e := ⟨_, List.getElem?_eq_getElem (by rw [HN.out]; exact hlt)⟩
        obtain ⟨b, o, rfl, hr⟩ := (PP.out.keep hb.out) k e he
        obtain ⟨J, hJ⟩ : ∃ J, grJ G Lw L k = J := ⟨_, rfl⟩
        have hasc := grJ_asc G Lw L k
        rw [hJ] at hlen hch hasc
        have hmm := hlen.out.1
        have hmm6 : mm ≤ 6 := by rw [← hmm]; have := hasc.len; omega
        have HASC := Lib.hid (show Asc n (J ++ [k]) from (hasc.push (Nat.le_refl _)).up (by omega))
        have HSEL := Lib.hid (selL_push J he)
        have HIDX := Lib.hid (idxI_push J k)
        have HJK := Lib.hid hJ
        obtain ⟨xo, xc, r⟩ := e
        obtain ⟨kb, hkb⟩ : ∃ kb, keptB G Lw (selL L (J ++ [k])) = kb := ⟨_, rfl⟩
        have HKB := Lib.hid hkb
        have JNO := Lib.hid (fun (h : keptB G Lw (selL L (J ++ [k])) = false) => (show grJ G Lw L (k + 1) = J from by rw [grJ_no (by rw [HJK.out]; exact h), HJK.out]))
        have JYES := Lib.hid (fun (h : keptB G Lw (selL L (J ++ [k])) = true) => (show grJ G Lw L (k + 1) = J ++ [k] from by rw [grJ_yes (by rw [HJK.out]; exact h), HJK.out]))
        obtain ⟨es, clock, hmp, hMM⟩ := hmap.out
        have HMP := Lib.hid hmp
        have HMM := Lib.hid hMM
        have TK1 := Lib.hid (fun (p1 : Option Addr) (c1 : Nat) (p2 : Option Addr) (c2 : Nat) V (h : Below W.heap.size W V) (hc : ChAt V p1 p2 (idxI J ++ [(k : Int)]) (selL L J ++ [(xo, xc, r)])) (hm : V.heap[bm]? = some (.map es clock)) => TK.out bm p1 c1 p2 c2 (J ++ [k]) HASC.out es clock V h (by rw [HIDX.out, HSEL.out]; exact hc) hm HMM.out)
        rw [hkb] at TK1
        simp only [List.length_append, List.length_singleton, hmm] at TK1
        have TW := Lib.hid (fun V (h : ChAt V q1 q2 (idxI J) (selL L J)) => with_any q1 d1 q2 d2 mm (idxI J) (selL L J) (k : Int) xo xc r (by rw [idxI_len, hmm]) (by rw [selL_len, hmm]) (by omega) hlen.out.2.1 hlen.out.2.2 V h)
        have c0 : wr.cell? ⟨b, o + k * 3, none⟩ = some (.int .i8 xo) := hr 0 _ rfl
        have c1 : wr.cell? ⟨b, o + k * 3 + 1, none⟩ = some (.int .i8 xc) := hr 1 _ rfl
        have c2 : wr.cell? ⟨b, o + k * 3 + 2, none⟩ = some (.int .i16 r) := hr 2 _ rfl
        obtain ⟨U, hU, e0, e1, e2, bU⟩ := pm_box3 xo xc r 82 wr
        obtain ⟨pb, hpb⟩ : ∃ pb, wr.heap.size = pb := ⟨_, rfl⟩
        rw [hpb] at e0 e1 e2
        have HCU := Lib.hid (hch.out.keep bU)
        have HBU := Lib.hid bU
        have m0 : U.cell? ⟨b6, 0, none⟩ = some (.slice q1 mm d1) := range_kept hr6.out.1 (by have := hr7.out.2; omega) U bU 0 _ rfl
        have m1 : U.cell? ⟨b6, 1, none⟩ = some (.slice q2 mm d2) := range_kept hr6.out.1 (by have := hr7.out.2; omega) U bU 1 _ rfl
        simp only [Chv, Pm] at TW
        obtain ⟨cb, hcb⟩ : ∃ cb, decide ((k : Int) ∈ M) = cb := ⟨_, rfl⟩
        have HCB := Lib.hid hcb
        have TN1 := Lib.hid (fun V (h : Below W.heap.size W V) => TN.out (k : Int) V h)
        rw [hcb] at TN1
        have HAG := Lib.hid (fun (h : kb = cb) => (show ∀ j : Nat, j < k + 1 → keptB G Lw (selL L (grJ G Lw L j ++ [j])) = decide ((j : Int) ∈ M) from fun j hj => by
          by_cases e2 : j = k
          · rw [e2, HJK.out, HKB.out, HCB.out]; exact h
          · exact hag.out j (by omega)))
        have HDF := Lib.hid (fun (h : kb ≠ cb) => HDIF.out k hlt (by rw [HJK.out, HKB.out, HCB.out]; exact h))
        have HLN := Lib.hid hmm
        have HPB := Lib.hid hpb
        clear he hJ hkb hmp hMM hr bU hmm hcb
        go_upto_region 9 with (fail)
        try rw [hU]
        clear hU c0 c1 c2
        try rw [hpb]
        clear hpb
        go_upto_region 11 with (first | (go_at_call 67; refine (TW.out _ HCU.out).mono ?_; rintro e V3 ⟨g1, f1, g2, f2, rfl, h1, h2, l1, l2, hc3, hb3, ht3⟩) | (go_at_call 71; refine (TN1.out _ (hb.out.trans ((HBU.out.trans (hb3.mono HBU.out.size)).mono hb.out.size))).mono ?_; rintro e V4 ⟨rfl, hb4⟩))
        obtain ⟨Y, hY, zY, rY, bY⟩ := one_box (Chv (some ⟨g1, 0, none⟩) f1 (some ⟨g2, 0, none⟩) f2 (mm + 1)) 108 V4
        simp only [Chv] at hY
        rw [hY]
        clear hY
        have hb4Y : Below V3.heap.size V3 Y := hb4.trans (bY.mono hb4.size)
        have hUY : Below wr.heap.size wr Y := HBU.out.trans ((hb3.trans (hb4Y.mono hb3.size)).mono HBU.out.size)
        have hWY : Below W.heap.size W Y := hb.out.trans (hUY.mono hb.out.size)
        have hcY := hc3.keep hb4Y
        have TKY := Lib.hid (TK1.out _ f1 _ f2 Y hWY hcY ((hUY.block bm (Array.getElem?_eq_some_iff.1 HMP.out).1).trans HMP.out))
        simp only [Ckv, Chv] at TKY
        have h7 := hr7.out.2
        have hsU := HBU.out.size
        have lg1 : g1 < V3.heap.size := (by rcases hc3.1 with ⟨h, _⟩ | ⟨g, h, hl, _⟩ <;> cases h; exact hl)
        have F6 := Lib.hid (show Y.rangeAt b6 0 (Chv q1 d1 q2 d2 mm).toList ∧ Y.there b6 0 2 ∧ b6 < Y.heap.size from ⟨range_kept hr6.out.1 (by omega) Y hUY, there_below hr6.out.2 hUY (by omega), Nat.lt_of_lt_of_le (by omega) hUY.size⟩)
        have F7 := Lib.hid (show Y.rangeAt (b6 + 1) 0 (Ckv w.heap.size bm).toList ∧ b6 + 1 < Y.heap.size from ⟨range_kept hr7.out.1 h7 Y hUY, Nat.lt_of_lt_of_le h7 hUY.size⟩)
        have FC := Lib.hid hcY
        have FO := Lib.hid (hch.out.keep hUY)
        have FQ := Lib.hid (fun g (hg : q1 = some ⟨g, 0, none⟩) => (show g < Y.heap.size ∧ Y.there g 0 mm from ⟨Nat.lt_of_lt_of_le (hq.out.1 g hg).2.1 hUY.size, there_below (hq.out.1 g hg).2.2 hUY (hq.out.1 g hg).2.1⟩))
        have FT := Lib.hid (show Y.there g1 0 (mm + 1) ∧ g1 < Y.heap.size ∧ b6 + 1 < g1 ∧ b6 + 1 < g2 from ⟨there_below ht3 hb4Y lg1, Nat.lt_of_lt_of_le lg1 hb4Y.size, by omega, by omega⟩)
        have HF := Lib.hid (show mm + 1 ≤ f1 ∧ mm + 1 ≤ f2 from ⟨h1, h2⟩)
        have HWY := Lib.hid hWY
        have hb3s := Nat.le_trans hb3.size hb4.size
        obtain ⟨b10, hb10⟩ : ∃ b, V4.heap.size = b := ⟨_, rfl⟩
        rw [hb10] at rY zY hb3s
        try rw [hb10]
        have y0 : Y.cell? ⟨b10, 0, none⟩ = some (.slice (some ⟨g1, 0, none⟩) (mm + 1) f1) := rY 0 _ rfl
        have y1 : Y.cell? ⟨b10, 1, none⟩ = some (.slice (some ⟨g2, 0, none⟩) (mm + 1) f2) := rY 1 _ rfl
        have F10 := Lib.hid (show b10 ≠ bm ∧ b10 < Y.heap.size from ⟨by have := HLM.out; omega, by omega⟩)
        have x0 : Y.cell? ⟨b6 + 1, 0, none⟩ = some (.pointer (some ⟨w.heap.size, 0, none⟩)) := F7.out.1 0 _ rfl
        have x1 : Y.cell? ⟨b6 + 1, 1, none⟩ = some (.map (some bm)) := F7.out.1 1 _ rfl
        have C10 := Lib.hid (And.intro y0 y1)
        clear rY zY hb3s hb10 hWY hUY hcY h7 hsU lg1 hc3 hb3 hb4 hb4Y ht3 l1 l2 h1 h2 bY m0 m1 e0 e1 e2 hr6 hr7
        cases kb
        · cases cb
          · go_wp2_with (go_at_call 68; refine TKY.out.mono ?_; rintro e Z ⟨rfl, hmapZ, hbZ, hsZ, hxZ⟩; have HMZ := Lib.hid hmapZ; have OZ := Lib.hid (show Onl bm Y Z from ⟨hsZ, hxZ⟩); have BZ := Lib.hid (HWY.out.trans (hbZ.mono HWb.out)); clear hmapZ hbZ hsZ hxZ)
            go_roundw
            case rel =>
              have h1 := HLM.out
              have o6 := OZ.out.2 b6 (by omega) F6.out.2.2
              exact ⟨k + 1, mm, d1, d2, q1, q2, by omega, by go_num, Lib.hid ⟨by rw [JNO.out HKB.out]; exact HLN.out, hlen.out.2⟩, Lib.hid ⟨range_eqC o6 F6.out.1, there_eqC o6 F6.out.2.1⟩, Lib.hid ⟨range_eqC (OZ.out.2 (b6 + 1) (by omega) F7.out.2) F7.out.1, Nat.lt_of_lt_of_le F7.out.2 OZ.out.1⟩, HMZ, Lib.hid (by rw [JNO.out HKB.out]; exact ⟨FO.out.1.onl OZ.out (fun g hg => by have := (hq.out.1 g hg).1; omega), FO.out.2.onl OZ.out (fun g hg => by have := hq.out.2 g hg; omega)⟩), Lib.hid ⟨fun g hg => ⟨(hq.out.1 g hg).1, Nat.lt_of_lt_of_le (FQ.out g hg).1 OZ.out.1, there_eqC (OZ.out.2 g (by have := (hq.out.1 g hg).1; omega) (FQ.out g hg).1) (FQ.out g hg).2⟩, hq.out.2⟩, BZ, Lib.hid (HAG.out (by trivial))⟩
            case measure => simp [intOf]; omega
          · go_wp2_with (go_at_call 68; refine TKY.out.mono ?_; rintro e Z ⟨rfl, hmapZ, hbZ, hsZ, hxZ⟩; have HMZ := Lib.hid hmapZ; have OZ := Lib.hid (show Onl bm Y Z from ⟨hsZ, hxZ⟩); have BZ := Lib.hid (HWY.out.trans (hbZ.mono HWb.out)); clear hmapZ hbZ hsZ hxZ)
            go_ret2
            exact ⟨by rw [HDF.out (by decide)]; rfl, HB.out.trans (BZ.out.mono HB.out.size)⟩
        · cases cb
          · go_wp2_with (go_at_call 68; refine TKY.out.mono ?_; rintro e Z ⟨rfl, hmapZ, hbZ, hsZ, hxZ⟩; have HMZ := Lib.hid hmapZ; have OZ := Lib.hid (show Onl bm Y Z from ⟨hsZ, hxZ⟩); have BZ := Lib.hid (HWY.out.trans (hbZ.mono HWb.out)); clear hmapZ hbZ hsZ hxZ)
            go_ret2
            exact ⟨by rw [HDF.out (by decide)]; rfl, HB.out.trans (BZ.out.mono HB.out.size)⟩
          · go_wp2_with (go_at_call 68; refine TKY.out.mono ?_; rintro e Z ⟨rfl, hmapZ, hbZ, hsZ, hxZ⟩; have HMZ := Lib.hid hmapZ; have OZ := Lib.hid (show Onl bm Y Z from ⟨hsZ, hxZ⟩); have BZ := Lib.hid (HWY.out.trans (hbZ.mono HWb.out)); clear hmapZ hbZ hsZ hxZ; have o10 := OZ.out.2 b10 F10.out.1 F10.out.2; have z0 := (cell_eqC o10 0).trans C10.out.1; have z1 := (cell_eqC o10 1).trans C10.out.2; have T6 := there_eqC (OZ.out.2 b6 (by have := HLM.out; omega) F6.out.2.2) F6.out.2.1; obtain ⟨u0, hu0⟩ := Option.isSome_iff_exists.1 (T6 0 (by omega)).1; obtain ⟨u1, hu1⟩ := Option.isSome_iff_exists.1 (T6 1 (by omega)).1; have f0' := (T6 0 (by omega)).2; have f1' := (T6 1 (by omega)).2; simp only [Nat.zero_add] at hu0 hu1 f0' f1'; have HT6 := Lib.hid T6; clear T6 o10 x0 x1 y0 y1)
            go_roundw
            case rel =>
              have h1 := HLM.out
              have h2 := FT.out
              obtain ⟨cs, hcs⟩ : ∃ cs, (Chv (some ⟨g1, 0, none⟩) f1 (some ⟨g2, 0, none⟩) f2 (mm + 1)).toList = cs := ⟨_, rfl⟩
              have SZ := onl_set Z b6 cs
              have l6 : b6 < Z.heap.size := Nat.lt_of_lt_of_le F6.out.2.2 OZ.out.1
              have l7 : b6 + 1 < Z.heap.size := Nat.lt_of_lt_of_le F7.out.2 OZ.out.1
              have lg : g1 < Z.heap.size := Nat.lt_of_lt_of_le h2.2.1 OZ.out.1
              have r6 := World.rangeAt_setCells_same Z b6 0 cs (by rw [← hcs]; exact HT6.out)
              have t6 := World.there_setCells HT6.out b6 0 cs
              have k7 := range_eqC (SZ.2 (b6 + 1) (by omega) l7) (range_eqC (OZ.out.2 (b6 + 1) (by omega) F7.out.2) F7.out.1)
              have c6 : ChAt (Z.setCells b6 0 cs) (some ⟨g1, 0, none⟩) (some ⟨g2, 0, none⟩) (idxI J ++ [(k : Int)]) (selL L J ++ [(xo, xc, r)]) := ⟨(FC.out.1.onl OZ.out (fun g hg => by cases hg; omega)).onl SZ (fun g hg => by cases hg; omega), (FC.out.2.onl OZ.out (fun g hg => by cases hg; omega)).onl SZ (fun g hg => by cases hg; omega)⟩
              have tg := there_eqC (SZ.2 g1 (by omega) lg) (there_eqC (OZ.out.2 g1 (by omega) h2.2.1) h2.1)
              obtain ⟨es', clock', hmz, hMz⟩ := HMZ.out
              have hmz' := (SZ.2 bm (by omega) (Array.getElem?_eq_some_iff.1 hmz).1).trans hmz
              have bz := below_setCells b6 (show W.heap.size ≤ b6 by have := HWb.out; omega) cs 0 Z BZ.out
              subst hcs
              exact ⟨k + 1, mm + 1, f1, f2, some ⟨g1, 0, none⟩, some ⟨g2, 0, none⟩, by omega, by go_num, Lib.hid ⟨by rw [JYES.out HKB.out, List.length_append, HLN.out]; rfl, HF.out⟩, Lib.hid ⟨r6, t6⟩, Lib.hid ⟨k7, Nat.lt_of_lt_of_le l7 SZ.1⟩, Lib.hid ⟨es', clock', hmz', hMz⟩, Lib.hid (by rw [JYES.out HKB.out, HIDX.out, HSEL.out]; exact c6), Lib.hid ⟨fun g hg => by cases hg; exact ⟨h2.2.2.1, Nat.lt_of_lt_of_le lg SZ.1, tg⟩, fun g hg => by cases hg; exact h2.2.2.2⟩, Lib.hid bz, Lib.hid (HAG.out (by trivial))⟩
            case measure => simp [intOf]; omega
      · obtain rfl : k = n := by omega
        have HRT := Lib.hid (HSAM.out (by trivial) hag.out)
        go_wp2
        go_ret2
        exact ⟨by rw [HRT.out]; rfl, HB.out.trans (hb.out.mono HB.out.size)⟩
end Go.Proofs.YtaghnminpfgdcaaGreatDoor
