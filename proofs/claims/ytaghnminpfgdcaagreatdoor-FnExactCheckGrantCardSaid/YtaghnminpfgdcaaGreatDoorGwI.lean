/- Permits' ground, the program's groundWith. Condition: the table of math/bits is laid. -/
import Derived.Test.YtaghnminpfgdcaaGreatDoorGw
import Derived.Test.YtaghnminpfgdcaaGreatDoorPlanL
namespace Go.Proofs.YtaghnminpfgdcaaGreatDoor
open Go Go.RowKit Go.Shelf
attribute [local go_sem] Oper.semAt_some run_store_float
set_option linter.unusedSimpArgs false
set_option linter.unusedVariables false

/-- The refusal of permits that are groundless, by its code; nil for 0. -/
def errG (n : Int) : Value := if n = 0 then .nilIface else .iface 138 (.int .i64 n)
theorem errG_0 : errG 0 = .nilIface := rfl
theorem errG_ne {n : Int} (h : n ≠ 0) : errG n = .iface 138 (.int .i64 n) := by simp [errG, h]
/-- What groundWith says. -/
def gwV (G : Gd) (Lw : List T2) (L : List P3) : Gd × Int := if prmB G Lw L = true then gwR L G else (zG, 1)
theorem prm_is {G : Gd} {Lw : List T2} {L : List P3} (h : prmB G Lw L = true) : validB G = true ∧ L.length ≤ 6 ∧ (∀ e ∈ L, pmB G e = true) ∧ Lw.length ≤ 6 ∧ (∀ e ∈ Lw, wtB G e = true) := by
  simp only [prmB, ofB, Bool.and_eq_true, decide_eq_true_eq, List.all_eq_true] at h
  exact ⟨h.1.1, h.2.1, h.2.2, h.1.2.1, h.1.2.2⟩
set_option maxRecDepth 100000 in
set_option maxHeartbeats 2000000 in
theorem water_any (xo xc r : Int) (hr : rateB (0, 0, r) = true) (w : World) : Calls Tryz.prog 87 #[.agg (Pm xo xc r)] w fun e w' => e = .returned (.float .f32 (watN r)) ∧ Below w.heap.size w w' := by
  have HW := Lib.hid (show ∀ z, num .f32 z = fop .f32 .quo (num .f32 (floatOfInt .f32 r)) (num .f32 1082130432) → z = watN r from fun z hz => by
    have h1 := (water_is hr).1
    unfold waterO at h1
    rw [h1] at hz
    exact (num_eq_some hz).1)
  have h1 : 0 ≤ r ∧ r ≤ 400 := by simpa [rateB] using hr
  obtain ⟨V2, hV2, d0, d1, d2, b2⟩ := pm_box3 xo xc r 82 w
  have HB := Lib.hid b2
  clear hr b2
  simp only [Pm]
  go_enter Tryz.func87, Tryz.ntmps87
  go_upto_region 1 with (fail)
  try rw [hV2]
  clear hV2
  go_wp2_with (refine wpList_float rfl _ _ _ _ _ rfl rfl .f32 _ _ rfl rfl ?_; intro z m hz; have HZ := Lib.hid (HW.out z hz); clear hz)
  go_ret
  exact ⟨by first | rfl | (rw [HZ.out]; rfl), HB.out.trans (Quiet.below ⟨_, rfl⟩ _)⟩
theorem ret_GE {fn : Func} {p q : Tmp} (h : fn.results = #[.cell p 36, .tmp q]) {tmps : Array Value} {w : World} {b : Nat} {G : Gd} {v : Value} (hp : tmps.getD p undef = .pointer (some ⟨b, 0, none⟩)) (hq : tmps.getD q undef = v) (hc : w.rangeAt b 0 (GrdL G)) :
    (results fn tmps).run Tryz.prog w = .ok (.tuple #[.agg (Grd G), v]) w := by
  have hp' : tmps[p]?.getD undef = .pointer (some ⟨b, 0, none⟩) := by simpa using hp
  have hq' : tmps[q]?.getD undef = v := by simpa using hq
  have h1 := run_loadVar_mid (P := Tryz.prog) w b 0 36 (GrdL G) _ hc Tryz.underlying36 rfl (by rw [GrdL_length]; exact infoG195)
  simp [results, h, hp', hq', asAddr, h1, Grd]

theorem pm_range (xo xc r : Int) (t : TypeId) (w : World) : (w.alloc (.cells #[.int .i8 xo, .int .i8 xc, .int .i16 r] t)).rangeAt w.heap.size 0 (Pm xo xc r).toList := rangeAt_row (heap_alloc_last w _)
set_option maxRecDepth 100000 in
set_option maxHeartbeats 4000000 in
theorem groundWith_any (G : Gd) (pw : Option Addr) (cw : Nat) (Lw : List T2) (hLw : Lw.length ≤ 1048576) (hOw : ∀ e ∈ Lw, okT2 e) (p : Option Addr) (c : Nat) (L : List P3) (hL : L.length ≤ 1048576) (hO : ∀ e ∈ L, okPQ e) (b0 : Nat) (w : World) (hb : OfBox w b0 ⟨G, pw, Lw.length, cw⟩) (hpw : TsAt w pw Lw) (hp : PsAt w p L) (hG : GdOk G) (hT : TabAt w) :
    Calls Tryz.prog 53 #[.pointer (some ⟨b0, 0, none⟩), .slice p L.length c] w fun e w' => e = .returned (.tuple #[.agg (Grd (gwV G Lw L).1), errG (gwV G Lw L).2]) ∧ Below w.heap.size w w' := by
  have hz := (zero_of_info zeroGround).1
  have hbl := hb.lt
  obtain ⟨m, hm⟩ : ∃ m, Lw.length = m := ⟨_, rfl⟩
  obtain ⟨n, hn⟩ : ∃ n, L.length = n := ⟨_, rfl⟩
  have VP := fun V (h1 : TsAt V pw Lw) (h2 : PsAt V p L) (h3 : TabAt V) => implValidPermits_any G pw cw Lw hLw hOw p c L hL hO V h1 h2 hG h3
  rw [hm] at hb
  rw [hm, hn] at VP
  have HN := Lib.hid hn
  rw [hn] at hL ⊢
  have HB0 := Lib.hid hb
  have PW := Lib.hid hpw
  have PP := Lib.hid hp
  have HG := Lib.hid hG
  have HT := Lib.hid hT
  clear hb hpw hp hG hT hm hn hLw hOw hO
  cases hpr : prmB G Lw L
  · have HR := Lib.hid (show gwV G Lw L = (zG, 1) by simp [gwV, hpr])
    rw [hpr] at VP
    have HVP := Lib.hid VP
    clear hpr VP
    go_enter Tryz.func53, Tryz.ntmps53
    go_upto_region 1 with (fail)
    obtain ⟨W, hW, zW, g1, hB⟩ := gbox1 zG 36 w
    rw [hW]
    clear hW
    have r1 := (HB0.out.below hB hbl).range
    have G2 := Lib.hid g1
    have BW0 := Lib.hid hB
    clear g1 hB
    go_wp2_with (first | (refine ld_stage 41 rfl ?_; refine wpList_load_mid rfl 41 _ rfl (b0) 0 rfl (OfL ⟨G, pw, m, cw⟩) _ r1 Tryz.underlying41 rfl (by rw [OfL_length]; exact infoOffice) ?_) | (go_at_call 64; refine (HVP.out _ (PW.out.keep BW0.out) (PP.out.keep BW0.out) (HT.out.below BW0.out (tab_lt HT.out))).mono ?_; rintro e V ⟨rfl, hb⟩; have S2 := Lib.hid (G2.out.below hb (by omega)); have BV := Lib.hid (BW0.out.trans (hb.mono (by omega))); have tt := S2.out.there; clear hb) | (refine st_stage 36 rfl ?_; refine wpList_store_mid rfl 36 _ _ rfl _ 0 (Grd (zG)) rfl rfl (by rw [Grd_size]; with_reducible exact tt) (by rw [Grd_size]; exact infoGround) (Grd_one _) ?_))
    refine bodyPost_ret (ret_GE rfl rfl rfl S2.out.store.range) rfl ⟨by rw [HR.out]; rfl, below_setCells _ (Nat.le_refl _) _ _ _ BV.out⟩
  · obtain ⟨hv, hL6, hpm, _, _⟩ := prm_is hpr
    have HR0 := Lib.hid (show gwV G Lw L = gwR L G by simp [gwV, hpr])
    obtain ⟨R, hR⟩ : ∃ R, gwR L G = R := ⟨_, rfl⟩
    rw [hpr] at VP
    have HVP := Lib.hid VP
    have HM := Lib.hid hpm
    have HVV := Lib.hid (And.intro hv HG.out)
    have HR := Lib.hid hR
    rw [HN.out] at hL6
    clear hpr VP hv hpm hR
    go_enter Tryz.func53, Tryz.ntmps53
    go_upto_region 1 with (fail)
    obtain ⟨W, hW, zW, g1, hB⟩ := gbox1 zG 36 w
    rw [hW]
    clear hW
    have r1 := (HB0.out.below hB hbl).range
    have G2 := Lib.hid g1
    have BW0 := Lib.hid hB
    clear g1 hB
    go_upto_region 3 with (first | (refine ld_stage 41 rfl ?_; refine wpList_load_mid rfl 41 _ rfl (b0) 0 rfl (OfL ⟨G, pw, m, cw⟩) _ r1 Tryz.underlying41 rfl (by rw [OfL_length]; exact infoOffice) ?_) | (go_at_call 64; refine (HVP.out _ (PW.out.keep BW0.out) (PP.out.keep BW0.out) (HT.out.below BW0.out (tab_lt HT.out))).mono ?_; rintro e V ⟨rfl, hb⟩))
    have zV := hb.size
    have r2 := (HB0.out.below (BW0.out.trans (hb.mono BW0.out.size)) hbl).grd.range
    have S2 := Lib.hid (G2.out.below hb (by omega))
    have BV := Lib.hid (BW0.out.trans (hb.mono (by omega)))
    have TV := Lib.hid (HT.out.below BV.out (tab_lt HT.out))
    have hnt := new_thereG 36 V
    clear hb r1 G2
    go_upto_region 4 with (first | (refine ld_stage 36 rfl ?_; refine wpList_load_mid rfl 36 _ rfl (b0) 0 rfl (GrdL (G)) _ r2 Tryz.underlying36 rfl (by rw [GrdL_length]; exact infoGround) ?_) | (refine st_stage 36 rfl ?_; refine wpList_store_mid rfl 36 _ _ rfl _ 0 (Grd (G)) rfl rfl (by rw [Grd_size]; with_reducible exact hnt) (by rw [Grd_size]; exact infoGround) (Grd_one _) ?_))
    obtain ⟨U, hU, zU, gU, bU⟩ := stored_box G 36 V
    rw [hU]
    obtain ⟨B, hBB⟩ : ∃ B, V.heap.size = B := ⟨_, rfl⟩
    have P2 := Lib.hid (S2.out.below bU S2.out.lt)
    have PB := Lib.hid (BV.out.trans (bU.mono BV.out.size))
    have PT := Lib.hid (TV.out.below bU (tab_lt TV.out))
    rw [hBB] at gU zV ⊢
    have PG := Lib.hid gU
    have hwB : w.heap.size < B := by omega
    clear r2 hnt hU zU gU bU hBB zV BV TV S2 zW
    go_wp2
    go_loopw [25] (fun i wr => ∃ (k : Nat) (K : Gd), k ≤ n ∧ i = .int .i64 k ∧ Hid (gwR (L.drop k) K = R) ∧ Hid (validB K = true ∧ GdOk K) ∧ Hid (K.wide = G.wide ∧ K.high = G.high) ∧ Hid (GBox wr B K) ∧ Hid (GBox wr w.heap.size zG) ∧ Hid (Below w.heap.size w wr) ∧ Hid (TabAt wr)) (fun i _ => n - (intOf i).toNat)
    case atStart => exact ⟨0, G, by omega, rfl, HR, HVV, Lib.hid ⟨rfl, rfl⟩, PG, P2, PB, PT⟩
    case round =>
      clear PG P2 PB PT
      obtain ⟨k, K, hk, rfl, hU, HV, HW, Q1, Q2, QB, QT⟩ := hrel
      have zr := Q1.out.lt
      by_cases hlt : k < n
      · have hki : (k : Int) < n := by omega
        obtain ⟨e, he⟩ : ∃ e, L[k]? = some e := ⟨_, List.getElem?_eq_getElem (by rw [HN.out]; exact hlt)⟩
        obtain ⟨b, o, rfl, hr⟩ := (PP.out.keep QB.out) k e he
        have hpe := HM.out e (List.mem_of_getElem? he)
        have hU2 := hU.out
        rw [drop_at he] at hU2
        obtain ⟨xo, xc, r⟩ := e
        simp only [pmB, Bool.and_eq_true] at hpe
        obtain ⟨q, rfl, hq64, hi⟩ := inB_cast hpe.2.1
        have hiK : isB K q = true := by
          unfold isB at hi ⊢
          rw [HW.out.1, HW.out.2]
          exact hi
        have hrt : rateB (0, 0, r) = true := hpe.2.2
        obtain ⟨w1, w2, w3⟩ := water_is (r := r) hrt
        obtain ⟨t, ht, hft, hpm⟩ := sub_is HV.out.1 hq64 hiK w2
        obtain ⟨KT, hKT⟩ : ∃ KT, takeG K (xo, (q : Int), r) = KT := ⟨_, rfl⟩
        have hTK : KT = { K with g := upd K.g (q : Int).toNat t } := by
          rw [← hKT]
          show pmpG K (q : Int).toNat (watN r) = _
          rw [Int.toNat_natCast, hpm]
        have HOK := Lib.hid (show GdOk KT by rw [hTK]; exact ok_pmp HV.out.2 hft)
        have HTW := Lib.hid (show KT.wide = G.wide ∧ KT.high = G.high by rw [hTK]; exact HW.out)
        have hask : askedN K (q : Int) = 0 := by
          unfold askedN
          rw [if_pos HV.out.1, inB_nat K q hq64, if_pos hiK]
        have hP1 : withN K { K with g := upd K.g (q : Int).toNat t } (q : Int) = madeN KT := by rw [hTK]; simp [withN, hask]
        have hP2 : withG K { K with g := upd K.g (q : Int).toNat t } (q : Int) = madeG KT := by rw [hTK]; simp [withG, hask]
        obtain ⟨A0, hA0⟩ : ∃ A0, madeG KT = A0 := ⟨_, rfl⟩
        obtain ⟨n0, hn0⟩ : ∃ n0, madeN KT = n0 := ⟨_, rfl⟩
        have HP := Lib.hid (show GN (withG K { K with g := upd K.g (q : Int).toNat t } (q : Int)) (withN K { K with g := upd K.g (q : Int).toNat t } (q : Int)) = .tuple #[.agg (Grd A0), .int .i64 n0] by rw [hP1, hP2, hA0, hn0]; rfl)
        have c0 : wr.cell? ⟨b, o + k * 3, none⟩ = some (.int .i8 xo) := hr 0 _ rfl
        have c1 : wr.cell? ⟨b, o + k * 3 + 1, none⟩ = some (.int .i8 (q : Int)) := hr 1 _ rfl
        have c2 : wr.cell? ⟨b, o + k * 3 + 2, none⟩ = some (.int .i16 r) := hr 2 _ rfl
        obtain ⟨V2, hV2, d0, d1', d2', b2⟩ := pm_box3 xo q r 82 wr
        have hpr := pm_range xo q r 82 wr
        rw [hV2] at hpr
        have hqr : wr.heap.size < V2.heap.size := by rw [← hV2]; simp
        obtain ⟨pb, hpb⟩ : ∃ pb, wr.heap.size = pb := ⟨_, rfl⟩
        have D1 := Lib.hid (Q1.out.below b2 Q1.out.lt)
        have D2 := Lib.hid (Q2.out.below b2 Q2.out.lt)
        have DB := Lib.hid (QB.out.trans (b2.mono QB.out.size))
        have DT := Lib.hid (QT.out.below b2 (tab_lt QT.out))
        rw [hpb] at d0 d1' d2' hpr hqr
        have HPR := Lib.hid hpr
        have HU := Lib.hid hU2
        clear he hr hpe hU2 hU hi hiK w1 w2 w3 hpm hTK hask hP1 hP2 b2 hpr
        go_upto_region 7 with (fail)
        try rw [hV2]
        clear hV2 c0 c1 c2
        try rw [hpb]
        clear hpb
        go_upto_region 8 with (fail)
        clear d0 d1' d2'
        have hS0 : (Below w.heap.size w V2.drew ∧ TabAt V2.drew) ∧ GBox V2.drew B K ∧ V2.drew.rangeAt pb 0 (Pm xo (q : Int) r).toList := ⟨⟨DB.out.drew, DT.out.below (Below.refl V2.heap.size V2).drew (tab_lt DT.out)⟩, D1.out.below (Below.refl V2.heap.size V2).drew D1.out.lt, range_kept HPR.out hqr _ (Below.refl V2.heap.size V2).drew⟩
        have hSS : ∀ Y Z, ((Below w.heap.size w Y ∧ TabAt Y) ∧ GBox Y B K ∧ Y.rangeAt pb 0 (Pm xo (q : Int) r).toList) → Below Y.heap.size Y Z → ((Below w.heap.size w Z ∧ TabAt Z) ∧ GBox Z B K ∧ Z.rangeAt pb 0 (Pm xo (q : Int) r).toList) := fun Y Z h hb => ⟨⟨h.1.1.trans (hb.mono h.1.1.size), h.1.2.below hb (tab_lt h.1.2)⟩, h.2.1.below hb h.2.1.lt, range_kept h.2.2 (World.block_lt_of_cell? Y ⟨pb, 0, none⟩ (h.2.2 0 _ rfl)) _ hb⟩
        refine wp_region_planL (ops' := regOf Tryz.f53 8) (b := 13) (.take 0 (.take 1 (.take 2 (.take 3 (.take 4 (.take 5 (.take 6 (.run 7 (.take 8 (.run 9 (.take 10 (.take 11 (.take 12 (.run 13 (.take 14 .fin))))))))))))))) (fun Z => (Below w.heap.size w Z ∧ TabAt Z) ∧ GBox Z B K ∧ Z.rangeAt pb 0 (Pm xo (q : Int) r).toList) (by kernel_rfl) (by kernel_rfl) (by kernel_rfl) (by kernel_rfl) (by kernel_rfl) (by kernel_rfl) hS0 ?_
        refine planL_load (some 33) 36 (.tmp 6) B 0 (GrdL K) _ (by decide) (by kernel_rfl) (by kernel_rfl) (by kernel_rfl) (by kernel_rfl) (by kernel_rfl) (by kernel_rfl) (fun w' hw' => (hw'.2.1).range) Tryz.underlying36 rfl (by rw [GrdL_length]; exact infoGround) ?_
        refine planL_pure (some 34) (.int .i64 (q : Int)) (by decide) (by kernel_rfl) (by kernel_rfl) (by kernel_rfl) (fun _ => (by kernel_rfl)) ?_
        refine planL_pure (some 35) (.int .i64 (q : Int)) (by decide) (by kernel_rfl) (by kernel_rfl) (by kernel_rfl) (fun _ => (by kernel_rfl)) ?_
        refine planL_pure (some 36) (.pointer (some ⟨B, 66, none⟩)) (by decide) (by kernel_rfl) (by kernel_rfl) (by kernel_rfl) (fun _ => (by kernel_rfl)) ?_
        refine planL_pure (some 37) (.pointer (some ⟨B, 66 + q, none⟩)) (by decide) (by kernel_rfl) (by kernel_rfl) (by kernel_rfl) (index_fld (x := .tmp 36) (y := .tmp 35) (o := 66) (by kernel_rfl) (by kernel_rfl) (by kernel_rfl) hq64) ?_
        refine planL_read (some 38) (.float .f32 (K.g q)) (by decide) (by kernel_rfl) (by kernel_rfl) (by kernel_rfl) (by kernel_rfl) (fun w' hw' => load_cell (ty := 23) (x := .tmp 37) (b := B) (o := 66 + q) (by kernel_rfl) (by kernel_rfl) Tryz.underlying23 rfl (by have h := hw'.2.1.at'.g; rw [Nat.zero_add] at h; exact Grd_fld h q hq64)) ?_
        refine planL_load (some 39) 82 (.tmp 9) pb 0 (Pm xo (q : Int) r).toList _ (by decide) (by kernel_rfl) (by kernel_rfl) (by kernel_rfl) (by kernel_rfl) (by kernel_rfl) (by kernel_rfl) (fun w' hw' => hw'.2.2) Tryz.underlying82 rfl (by kernel_rfl) ?_
        refine planL_call (some 40) 87 #[.agg (Pm xo (q : Int) r)] (by kernel_rfl) (by kernel_rfl) (by kernel_rfl) (by kernel_rfl) ((water_any xo q r hrt _).mono ?_)
        rintro _ Z1 ⟨rfl, hb1⟩
        have c1 := hSS _ _ hS0 hb1
        refine ⟨_, rfl, c1, ?_⟩
        refine planL_pure (some 41) (.float .f32 t) (by decide) (by kernel_rfl) (by kernel_rfl) (by kernel_rfl) (fun w' => sub_op (ty := 23) (tz := 23) (p := .tmp 38) (q := .tmp 40) (by kernel_rfl) (by kernel_rfl) (by kernel_rfl) ht w') ?_
        refine planL_call (some 42) 86 #[.agg (Grd K), .int .i64 (q : Int), .float .f32 t] (by kernel_rfl) (by kernel_rfl) (by kernel_rfl) (by kernel_rfl) ?_
        have hc := implWithGain_any K q t Z1 HV.out.2 (by omega) (by omega) hft (c1.1.2)
        rw [HP.out] at hc
        refine hc.mono ?_
        clear hc
        rintro _ Z2 ⟨rfl, hb2⟩
        have c2 := hSS _ _ c1 hb2
        refine ⟨_, rfl, c2, ?_⟩
        refine planL_pure (some 32) (.tuple #[.agg (Grd A0), .int .i64 n0]) (by decide) (by kernel_rfl) (by kernel_rfl) (by kernel_rfl) (fun _ => (by kernel_rfl)) ?_
        refine planL_pure (some 43) (.agg (Grd A0)) (by decide) (by kernel_rfl) (by kernel_rfl) (by kernel_rfl) (fun _ => (by kernel_rfl)) ?_
        refine planL_pure (some 44) (.int .i64 n0) (by decide) (by kernel_rfl) (by kernel_rfl) (by kernel_rfl) (fun _ => (by kernel_rfl)) ?_
        refine planL_last none undef (Z2.setCells B 0 (Grd A0).toList) (by kernel_rfl) (by kernel_rfl) (by kernel_rfl) (.inr ⟨store_op (x := .tmp 6) (y := .tmp 43) (by kernel_rfl) (by kernel_rfl) (by kernel_rfl) (by rw [Grd_size]; exact c2.2.1.there) (by rw [Grd_size]; exact infoGround) (Grd_one _), rfl⟩) ?_
        refine planL_pure (some 7) (.int .i64 n0) (by decide) (by kernel_rfl) (by kernel_rfl) (by kernel_rfl) (fun _ => (by kernel_rfl)) ?_
        refine planL_end (NoPanic.normal ?_)
        have X1 := Lib.hid (show GBox (Z2.setCells B 0 (Grd A0).toList) B A0 from c2.2.1.store (H := A0))
        have X2 := Lib.hid ((D2.out.below (((Below.refl V2.heap.size V2).drew.trans hb1).trans (hb2.mono ((Below.refl V2.heap.size V2).drew.trans hb1).size)) D2.out.lt).fars (b' := B) (vs := (Grd A0).toList) (k := 0) (by omega))
        have XB := Lib.hid (below_setCells B (Nat.le_of_lt hwB) (Grd A0).toList 0 Z2 c2.1.1)
        have XT := Lib.hid (c2.1.2.below (below_setCells (B := B) B (Nat.le_refl _) (Grd A0).toList 0 Z2 (Below.refl _ Z2)) (Nat.lt_trans (tab_lt HT.out) hwB))
        obtain ⟨Z, hZ⟩ : ∃ Z, Z2.setCells B 0 (Grd A0).toList = Z := ⟨_, rfl⟩
        rw [hZ] at X1 X2 XB XT ⊢
        clear hZ c2 c1 hb1 hb2 hS0 hSS ht hft HP
        simp only [Act.put, List.setIfInBounds_toArray, List.set_cons_zero, List.set_cons_succ]
        have t1 := X2.out.there
        cases hvt : validB KT
        · have HU := Lib.hid ((gwR_no (by rw [hKT]; exact hvt)).symm.trans HU.out)
          obtain rfl : 4 = n0 := by rw [← hn0]; simp [madeN, hvt]
          clear hvt hKT hA0 hn0 HTW
          go_wp2_with (first | (refine st_stage 36 rfl ?_; refine wpList_store_mid rfl 36 _ _ rfl _ 0 (Grd (zG)) rfl rfl (by rw [Grd_size]; with_reducible exact t1) (by rw [Grd_size]; exact infoGround) (Grd_one _) ?_))
          refine bodyPost_ret (ret_GE rfl rfl rfl X2.out.store.range) rfl ⟨by rw [HR0.out, HR.out, ← HU.out]; rfl, below_setCells _ (Nat.le_refl _) _ _ _ XB.out⟩
        · have HU := Lib.hid ((gwR_yes (by rw [hKT]; exact hvt)).symm.trans HU.out)
          obtain rfl : 0 = n0 := by rw [← hn0]; simp [madeN, hvt]
          obtain rfl : KT = A0 := by rw [← hA0]; simp [madeG, hvt]
          have HVK := Lib.hid (And.intro hvt HOK.out)
          rw [hKT] at HU
          clear hvt hKT hA0 hn0 t1
          go_wp2
          go_roundw
          case rel => exact ⟨k + 1, KT, by omega, by go_num, HU, HVK, HTW, X1, X2, XB, XT⟩
          case measure => simp [intOf]; omega
      · obtain rfl : n = k := by omega
        have HU := Lib.hid (show ((settR 981467136 1000 1 K).1, (settR 981467136 1000 1 K).2.2) = R by rw [← hU.out, ← HN.out, List.drop_length]; rfl)
        obtain ⟨A, x, y, hA⟩ : ∃ A x y, settR 981467136 1000 1 K = (A, x, y) := ⟨_, _, _, rfl⟩
        have HA := Lib.hid (show setV K 981467136 1000 = .tuple #[.agg (Grd A), .int .i64 x, .int .i64 y] by
          have e : setR K 981467136 1000 = settR 981467136 1000 1 K := by
            unfold setR
            rw [if_pos HV.out.1, if_pos (show (amtB 981467136 && budB 1000) = true by decide +kernel)]
            rfl
          unfold setV
          rw [e, hA]
          rfl)
        have HR2 := Lib.hid (show R = (A, y) by rw [← HU.out, hA])
        have hyz : y ≠ 0 → A = zG := fun h => by
          have := (settR_code 981467136 1000 1 K).resolve_left (by rw [hA]; exact h)
          rw [hA] at this
          exact this
        have rK := Q1.out.range
        clear hU hA HU
        go_upto_region 13 with (first | (refine ld_stage 36 rfl ?_; refine wpList_load_mid rfl 36 _ rfl (B) 0 rfl (GrdL (K)) _ rK Tryz.underlying36 rfl (by rw [GrdL_length]; exact infoGround) ?_) | (go_at_call 88; have hc := implSettle_any K 981467136 1000 wr HV.out.2 QT.out; rw [HA.out] at hc; refine hc.mono ?_; clear hc; rintro e V1 ⟨rfl, hb⟩; have S1 := Lib.hid (Q1.out.below hb Q1.out.lt); have S2 := Lib.hid (Q2.out.below hb Q2.out.lt); have SB := Lib.hid (QB.out.trans (hb.mono (by omega))); have t1 := S1.out.there; clear hb) | (refine st_stage 36 rfl ?_; refine wpList_store_mid rfl 36 _ _ rfl _ 0 (Grd (A)) rfl rfl (by rw [Grd_size]; with_reducible exact t1) (by rw [Grd_size]; exact infoGround) (Grd_one _) ?_))
        have T1 := Lib.hid (show GBox (V1.setCells B 0 (Grd A).toList) B A from S1.out.store (H := A))
        have T2 := Lib.hid (S2.out.fars (b' := B) (vs := (Grd A).toList) (k := 0) (by omega))
        have TB := Lib.hid (below_setCells B (Nat.le_of_lt hwB) (Grd A).toList 0 V1 SB.out)
        obtain ⟨Z, hZ⟩ : ∃ Z, V1.setCells B 0 (Grd A).toList = Z := ⟨_, rfl⟩
        try rw [hZ]
        rw [hZ] at T1 T2 TB
        have rA := T1.out.range
        have t2 := T2.out.there
        clear hZ t1 rK
        by_cases hy : y = 0
        · subst hy
          clear hyz
          go_wp2_with (first | (refine ld_stage 36 rfl ?_; refine wpList_load_mid rfl 36 _ rfl (B) 0 rfl (GrdL (A)) _ rA Tryz.underlying36 rfl (by rw [GrdL_length]; exact infoGround) ?_) | (refine st_stage 36 rfl ?_; refine wpList_store_mid rfl 36 _ _ rfl _ 0 (Grd (A)) rfl rfl (by rw [Grd_size]; with_reducible exact t2) (by rw [Grd_size]; exact infoGround) (Grd_one _) ?_))
          refine bodyPost_ret (ret_GE rfl rfl rfl T2.out.store.range) rfl ⟨by rw [HR0.out, HR.out, HR2.out]; rfl, below_setCells _ (Nat.le_refl _) _ _ _ TB.out⟩
        · obtain rfl := hyz hy
          have hy2 : (y == 0) = false := by simpa using hy
          have HE := Lib.hid (errG_ne hy)
          clear hyz
          go_wp2_with (first | (refine st_stage 36 rfl ?_; refine wpList_store_mid rfl 36 _ _ rfl _ 0 (Grd (zG)) rfl rfl (by rw [Grd_size]; with_reducible exact t2) (by rw [Grd_size]; exact infoGround) (Grd_one _) ?_))
          refine bodyPost_ret (ret_GE rfl rfl rfl T2.out.store.range) rfl ⟨by rw [HR0.out, HR.out, HR2.out, HE.out]; rfl, below_setCells _ (Nat.le_refl _) _ _ _ TB.out⟩
end Go.Proofs.YtaghnminpfgdcaaGreatDoor
