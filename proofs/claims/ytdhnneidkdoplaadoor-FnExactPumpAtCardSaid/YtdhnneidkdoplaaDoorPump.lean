/- PumpAt: the program's and the model's. (The program's: the table of math/bits is laid.) No condition. -/
import Derived.Test.YtdhnneidkdoplaaDoorSettle
import Derived.Test.YtdhnneidkdoplaaDoorChgI
namespace Go.Proofs.YtdhnneidkdoplaaDoor
open Go.RowKit Go.Shelf
attribute [local go_sem] Oper.semAt_some run_store_float
set_option linter.unusedSimpArgs false
set_option linter.unusedVariables false

theorem results_gFi {P : Program} {fn : Func} {p q r : Tmp} {ty tf : TypeId} {D Df : TypeDesc} (h : fn.results = #[.cell p ty, .cell q tf, .tmp r]) (tmps : Array Value) (w : World) (b c : Nat) (G : Gd) (f : Nat → Nat) (n : Int)
    (hp : tmps.getD p undef = .pointer (some ⟨b, 0, none⟩)) (hq : tmps.getD q undef = .pointer (some ⟨c, 0, none⟩)) (hr : tmps.getD r undef = .int .i64 n) (hc : w.rangeAt b 0 (GrdL G)) (hf : w.rangeAt c 0 (Fld f).toList)
    (hu : P.underlying ty = some D) (hd : D.isRow = true) (hi : (P.info? ty).map (·.size) = some 195) (huf : P.underlying tf = some Df) (hdf : Df.isRow = true) (hif : (P.info? tf).map (·.size) = some 64) :
    (results fn tmps).run P w = .ok (.tuple #[.agg (Grd G), .agg (Fld f), .int .i64 n]) w := by
  have hp' : tmps[p]?.getD undef = .pointer (some ⟨b, 0, none⟩) := by simpa using hp
  have hq' : tmps[q]?.getD undef = .pointer (some ⟨c, 0, none⟩) := by simpa using hq
  have hr' : tmps[r]?.getD undef = .int .i64 n := by simpa using hr
  have h1 := run_loadVar_mid (P := P) w b 0 ty (GrdL G) D hc hu hd (by rw [GrdL_length]; exact hi)
  have h2 := run_loadVar_mid (P := P) w c 0 tf (Fld f).toList Df hf huf hdf (by rw [Fld_length]; exact hif)
  simp [results, h, hp', hq', hr', asAddr, h1, h2, Grd]
/-- The ground and the field are stored. -/
theorem both_stored {V : World} {b c n : Nat} {G A : Gd} {f g : Nat → Nat} {a : World} (hne : b ≠ c) (hb : n ≤ b) (hc : n ≤ c) (hG : GBox V b G) (hF : RowAt V c f) (hB : Below n a V) :
    ((V.setCells b 0 (GrdL A)).setCells c 0 (Fld g).toList).rangeAt b 0 (GrdL A) ∧ ((V.setCells b 0 (GrdL A)).setCells c 0 (Fld g).toList).rangeAt c 0 (Fld g).toList ∧ Below n a ((V.setCells b 0 (GrdL A)).setCells c 0 (Fld g).toList) := by
  have h1 : GBox (V.setCells b 0 (GrdL A)) b A := hG.store
  have h2 : RowAt (V.setCells b 0 (GrdL A)) c f := RowAt.fars hne hF
  exact ⟨World.rangeAt_setCells_apart h1.range _ _ _ (.inl hne), h2.store.range, below_setCells _ hc _ _ _ (below_setCells _ hb _ _ _ hB)⟩
theorem settR_good {x : Nat} : ∀ (n : Nat) (t : Int) (K : Gd), validB K = true → GdOk K → (settR x n t K).2.2 = 0 → validB (settR x n t K).1 = true ∧ GdOk (settR x n t K).1 ∧ (settR x n t K).1.wide = K.wide ∧ (settR x n t K).1.high = K.high
  | 0, _, _, _, _, h => by cases h
  | n + 1, t, K, hv, hG, h => by
    cases hs : (swF headO K).2.1
    · rw [settR_no hs] at h; cases h
    · obtain ⟨vA, oA⟩ := swF_valid hv hG hs
      obtain ⟨e1, e2, _⟩ := swFold_ext headO (bitsL (cellsN K)) (K, true, 0)
      cases hl : leX (swF headO K).2.2 x
      · rw [settR_on hs hl] at h ⊢
        obtain ⟨a, b, c, d⟩ := settR_good n (t + 1) _ vA oA h
        exact ⟨a, b, c.trans e1, d.trans e2⟩
      · rw [settR_end hs hl]
        exact ⟨vA, oA, e1, e2⟩
/-- A ground with another gain. -/
def pmpG (G : Gd) (k r : Nat) : Gd := { G with g := upd G.g k ((fop .f32 .sub (num .f32 (G.g k)) (num .f32 r)).getD 0) }
def pumpR (G : Gd) (c : Int) (r x : Nat) (y : Int) : Gd × (Nat → Nat) × Int :=
  if askedN G c = 0 then (if (plainB r && (amtB x && budB y)) = true then (if validB (pmpG G c.toNat r) = true then (if (settR x y.toNat 1 (pmpG G c.toNat r)).2.2 = 0 then ((settR x y.toNat 1 (pmpG G c.toNat r)).1, chF G (settR x y.toNat 1 (pmpG G c.toNat r)).1, 0) else (zG, zf, (settR x y.toNat 1 (pmpG G c.toNat r)).2.2)) else (zG, zf, 4)) else (zG, zf, 2)) else (zG, zf, askedN G c)
def pumpV (G : Gd) (c : Int) (r x : Nat) (y : Int) : Value := .tuple #[.agg (Grd (pumpR G c r x y).1), .agg (Fld (pumpR G c r x y).2.1), .int .i64 (pumpR G c r x y).2.2]
theorem valid_gain {G : Gd} (hv : validB G = true) {k : Nat} (hk : k < 64) (hb : isB G k = true) : plainB (G.g k) = true := by
  unfold validB at hv
  simp only [Bool.and_eq_true] at hv
  have h := hv.2.2.1
  unfold fieldB at h
  have := List.all_eq_true.1 h k (by simpa using hk)
  simpa [okAt, hb] using this
theorem sub_is {G : Gd} (hv : validB G = true) {k : Nat} (hk : k < 64) (hb : isB G k = true) {r : Nat} (hr : plainB r = true) : ∃ t, fop .f32 .sub (num .f32 (G.g k)) (num .f32 r) = some t ∧ FloatKind.f32.has t ∧ pmpG G k r = { G with g := upd G.g k t } := by
  obtain ⟨t, h1, _, h3⟩ := plain_sub (valid_gain hv hk hb) hr
  exact ⟨t, h1, h3, by unfold pmpG; rw [h1]; rfl⟩
theorem sub_num {x y t r : Nat} (h : fop .f32 .sub (num .f32 x) (num .f32 y) = some t) (hr : num .f32 r = fop .f32 .sub (num .f32 x) (num .f32 y)) : r = t := by
  rw [h] at hr
  exact (num_eq_some hr).1
theorem ok_pmp {G : Gd} {k t : Nat} (hG : GdOk G) (ht : FloatKind.f32.has t) : GdOk { G with g := upd G.g k t } := ok_g hG ht
theorem alloc_op2 {P : Program} {op : Oper} {a : Act} {ty : TypeId} {cs : Array Value} (w : World) (ho : op.op = .alloc ty) (hz : ∀ w, (zeroValue ty).run P w = .ok (.agg cs) w) :
    (execOp a.eval op).run P w = .ok (.value (.pointer (some ⟨w.heap.size, 0, none⟩))) (w.alloc (.cells cs ty)) := by
  unfold execOp
  simp only [ho, Sem.run_bind, hz, Result.andThen]
  go_simp

theorem sub_op {P : Program} {op : Oper} {a : Act} {ty tz : TypeId} {p q : Operand} {x y t : Nat} (ho : op.op = .binOp .sub ty p q tz) (hx : a.eval p = .float .f32 x) (hy : a.eval q = .float .f32 y) (ht : fop .f32 .sub (num .f32 x) (num .f32 y) = some t) (w : World) :
    (execOp a.eval op).run P w = .ok (.value (.float .f32 t)) w := by
  have hrun := run_float_arith (P := P) w .sub ty .f32 x y t (by rw [← fop_num]; exact ht)
  have hq : (eqGuard .sub ty p q (.float .f32 x) (.float .f32 y)).run P w = .ok () w := by simp [eqGuard]
  unfold execOp
  simp only [ho, hx, hy]
  simp only [Sem.run_bind, hq, hrun, Result.andThen]
  rfl

set_option maxRecDepth 100000 in
set_option maxHeartbeats 2000000 in
theorem implPump_any (G : Gd) (c : Int) (r x : Nat) (y : Int) (w : World) (hG : GdOk G) (l1 : -9223372036854775808 ≤ c) (l2 : c ≤ 9223372036854775807) (hT : TabAt w) :
    Calls Tryd.prog 48 #[.agg (Grd G), .int .i64 c, .float .f32 r, .float .f32 x, .int .i64 y] w fun e w' => e = .returned (pumpV G c r x y) ∧ Below w.heap.size w w' := by
  have hz := (zero_of_info zeroGround).1
  have hzf := (zero_of_info zeroField).1
  go_enter Tryd.func48, Tryd.ntmps48
  go_upto_region 1 with (fail)
  obtain ⟨W, hW, zW, g1, g2, g3, hB⟩ := ggr_box G zG zf 32 32 30 w
  rw [hW]
  clear hW
  have G1 := Lib.hid g1
  have G2 := Lib.hid g2
  have G3 := Lib.hid g3
  have HB := Lib.hid hB
  have HG := Lib.hid hG
  have HT := Lib.hid hT
  have TW := Lib.hid (hT.below hB (tab_lt hT))
  have hl : w.heap.size + 1 + 1 < W.heap.size := by omega
  clear zW g1 g2 g3 hB hG hT
  by_cases ha : askedN G c = 0
  · obtain ⟨k, rfl, hk, hv, hi⟩ := asked_in ha
    have HA := Lib.hid ha
    cases hr : plainB r
    · have Hr := Lib.hid hr
      have HE := Lib.hid (show pumpR G k r x y = (zG, zf, 2) by simp [pumpR, ha, hr])
      clear ha hr
      go_wp2_with (first | (go_at_call 63; have hc := (checkCell_any G k l1 l2 w.heap.size W G1.out.at' (by omega) HG.out TW.out); rw [HA.out] at hc; refine hc.mono ?_; clear hc; rintro e V ⟨rfl, hb1⟩; have P1 := Lib.hid (G1.out.below hb1 (by omega)); have P2 := Lib.hid (G2.out.below hb1 (by omega)); have P3 := Lib.hid (G3.out.below hb1 (by omega)); have B1 := Lib.hid (HB.out.trans (hb1.mono (by omega))); have zV : w.heap.size + 1 + 1 < V.heap.size := (by have := hb1.size; omega); have tG := P2.out.there; have tF := fun (vs : List Value) => World.there_setCells P3.out.there (w.heap.size + 1) 0 vs; clear hb1) | (go_at_call 68; refine (isPlain_is r false Hr.out _).mono ?_; rintro e w' ⟨rfl, rfl⟩) | (refine st_stage 32 rfl ?_; refine wpList_store_mid rfl 32 _ _ rfl _ 0 (Grd (zG)) rfl rfl (by rw [Grd_size]; with_reducible exact tG) (by rw [Grd_size]; exact infoGround) (Grd_one _) ?_) | (refine st_stage 30 rfl ?_; refine wpList_store_mid rfl 30 _ _ rfl _ 0 (Fld (zf)) rfl rfl (by rw [Fld_size]; with_reducible exact (tF _)) (by rw [Fld_size]; exact infoField) (Fld_one _) ?_))
      have hX := both_stored (A := zG) (g := zf) (by omega : w.heap.size + 1 ≠ w.heap.size + 1 + 1) (by omega) (by omega) P2.out P3.out B1.out
      refine bodyPost_ret (results_gFi rfl _ _ _ _ zG zf 2 rfl rfl rfl hX.1 hX.2.1 Tryd.underlying32 rfl infoG195 Tryd.underlying30 rfl infoField) rfl ⟨by unfold pumpV; rw [HE.out], hX.2.2⟩
    · have Hr := Lib.hid hr
      cases hx : amtB x
      · have Hx := Lib.hid hx
        have HE := Lib.hid (show pumpR G k r x y = (zG, zf, 2) by simp [pumpR, ha, hr, hx])
        clear ha hr hx
        go_wp2_with (first | (go_at_call 63; have hc := (checkCell_any G k l1 l2 w.heap.size W G1.out.at' (by omega) HG.out TW.out); rw [HA.out] at hc; refine hc.mono ?_; clear hc; rintro e V ⟨rfl, hb1⟩; have P1 := Lib.hid (G1.out.below hb1 (by omega)); have P2 := Lib.hid (G2.out.below hb1 (by omega)); have P3 := Lib.hid (G3.out.below hb1 (by omega)); have B1 := Lib.hid (HB.out.trans (hb1.mono (by omega))); have zV : w.heap.size + 1 + 1 < V.heap.size := (by have := hb1.size; omega); have tG := P2.out.there; have tF := fun (vs : List Value) => World.there_setCells P3.out.there (w.heap.size + 1) 0 vs; clear hb1) | (go_at_call 68; refine (isPlain_is r true Hr.out _).mono ?_; rintro e w' ⟨rfl, rfl⟩) | (go_at_call 73; refine (isAmount_is x false Hx.out _).mono ?_; rintro e w' ⟨rfl, rfl⟩) | (refine st_stage 32 rfl ?_; refine wpList_store_mid rfl 32 _ _ rfl _ 0 (Grd (zG)) rfl rfl (by rw [Grd_size]; with_reducible exact tG) (by rw [Grd_size]; exact infoGround) (Grd_one _) ?_) | (refine st_stage 30 rfl ?_; refine wpList_store_mid rfl 30 _ _ rfl _ 0 (Fld (zf)) rfl rfl (by rw [Fld_size]; with_reducible exact (tF _)) (by rw [Fld_size]; exact infoField) (Fld_one _) ?_))
        have hX := both_stored (A := zG) (g := zf) (by omega : w.heap.size + 1 ≠ w.heap.size + 1 + 1) (by omega) (by omega) P2.out P3.out B1.out
        refine bodyPost_ret (results_gFi rfl _ _ _ _ zG zf 2 rfl rfl rfl hX.1 hX.2.1 Tryd.underlying32 rfl infoG195 Tryd.underlying30 rfl infoField) rfl ⟨by unfold pumpV; rw [HE.out], hX.2.2⟩
      · have Hx := Lib.hid hx
        cases hy : budB y
        · have Hy := Lib.hid hy
          have HE := Lib.hid (show pumpR G k r x y = (zG, zf, 2) by simp [pumpR, ha, hr, hx, hy])
          clear ha hr hx hy
          go_wp2_with (first | (go_at_call 63; have hc := (checkCell_any G k l1 l2 w.heap.size W G1.out.at' (by omega) HG.out TW.out); rw [HA.out] at hc; refine hc.mono ?_; clear hc; rintro e V ⟨rfl, hb1⟩; have P1 := Lib.hid (G1.out.below hb1 (by omega)); have P2 := Lib.hid (G2.out.below hb1 (by omega)); have P3 := Lib.hid (G3.out.below hb1 (by omega)); have B1 := Lib.hid (HB.out.trans (hb1.mono (by omega))); have zV : w.heap.size + 1 + 1 < V.heap.size := (by have := hb1.size; omega); have tG := P2.out.there; have tF := fun (vs : List Value) => World.there_setCells P3.out.there (w.heap.size + 1) 0 vs; clear hb1) | (go_at_call 68; refine (isPlain_is r true Hr.out _).mono ?_; rintro e w' ⟨rfl, rfl⟩) | (go_at_call 73; refine (isAmount_is x true Hx.out _).mono ?_; rintro e w' ⟨rfl, rfl⟩) | (go_at_call 83; refine (isBudget_is y false Hy.out _).mono ?_; rintro e w' ⟨rfl, rfl⟩) | (refine st_stage 32 rfl ?_; refine wpList_store_mid rfl 32 _ _ rfl _ 0 (Grd (zG)) rfl rfl (by rw [Grd_size]; with_reducible exact tG) (by rw [Grd_size]; exact infoGround) (Grd_one _) ?_) | (refine st_stage 30 rfl ?_; refine wpList_store_mid rfl 30 _ _ rfl _ 0 (Fld (zf)) rfl rfl (by rw [Fld_size]; with_reducible exact (tF _)) (by rw [Fld_size]; exact infoField) (Fld_one _) ?_))
          have hX := both_stored (A := zG) (g := zf) (by omega : w.heap.size + 1 ≠ w.heap.size + 1 + 1) (by omega) (by omega) P2.out P3.out B1.out
          refine bodyPost_ret (results_gFi rfl _ _ _ _ zG zf 2 rfl rfl rfl hX.1 hX.2.1 Tryd.underlying32 rfl infoG195 Tryd.underlying30 rfl infoField) rfl ⟨by unfold pumpV; rw [HE.out], hX.2.2⟩
        · have Hy := Lib.hid hy
          obtain ⟨t, ht, hft, hpm⟩ := sub_is hv hk hi hr
          obtain ⟨Pm, hPm⟩ : ∃ Pm, pmpG G k r = Pm := ⟨_, rfl⟩
          have hE : pumpR G (k : Int) r x y = if validB Pm = true then (if (settR x y.toNat 1 Pm).2.2 = 0 then ((settR x y.toNat 1 Pm).1, chF G (settR x y.toNat 1 Pm).1, 0) else (zG, zf, (settR x y.toNat 1 Pm).2.2)) else (zG, zf, 4) := by simp [pumpR, ha, hr, hx, hy, hPm]
          have hPe : ({ G with g := upd G.g k t } : Gd) = Pm := hpm.symm.trans hPm
          have OP := Lib.hid (show GdOk Pm by rw [← hPe]; exact ok_pmp HG.out hft)
          have hwn : withN G { G with g := upd G.g (k : Int).toNat t } k = madeN Pm := by simp only [withN, ha, if_true, Int.toNat_natCast]; rw [hPe]
          have hwg : withG G { G with g := upd G.g (k : Int).toNat t } k = madeG Pm := by simp only [withG, ha, if_true, Int.toNat_natCast]; rw [hPe]
          have hew : Pm.wide = G.wide ∧ Pm.high = G.high := by rw [← hPe]; exact ⟨rfl, rfl⟩
          obtain ⟨A0, hA0⟩ : ∃ A0, madeG Pm = A0 := ⟨_, rfl⟩
          obtain ⟨n0, hn0⟩ : ∃ n0, madeN Pm = n0 := ⟨_, rfl⟩
          have HP := Lib.hid (show GN (withG G { G with g := upd G.g (k : Int).toNat t } k) (withN G { G with g := upd G.g (k : Int).toNat t } k) = .tuple #[.agg (Grd A0), .int .i64 n0] by rw [hwn, hwg, hA0, hn0]; rfl)
          have HV := Lib.hid hv
          clear hwn hwg hPe hpm hPm ha hr hx hy hv hi
          go_upto_region 6 with (first | (go_at_call 63; have hc := (checkCell_any G k l1 l2 w.heap.size W G1.out.at' (by omega) HG.out TW.out); rw [HA.out] at hc; refine hc.mono ?_; clear hc; rintro e V ⟨rfl, hb1⟩; have P1 := Lib.hid (G1.out.below hb1 (by omega)); have P2 := Lib.hid (G2.out.below hb1 (by omega)); have P3 := Lib.hid (G3.out.below hb1 (by omega)); have B1 := Lib.hid (HB.out.trans (hb1.mono (by omega))); have zV : w.heap.size + 1 + 1 < V.heap.size := (by have := hb1.size; omega); have tG := P2.out.there; have tF := fun (vs : List Value) => World.there_setCells P3.out.there (w.heap.size + 1) 0 vs; clear hb1) | (go_at_call 68; refine (isPlain_is r true Hr.out _).mono ?_; rintro e w' ⟨rfl, rfl⟩) | (go_at_call 73; refine (isAmount_is x true Hx.out _).mono ?_; rintro e w' ⟨rfl, rfl⟩) | (go_at_call 83; refine (isBudget_is y true Hy.out _).mono ?_; rintro e w' ⟨rfl, rfl⟩))
          have TV := Lib.hid (HT.out.below B1.out (tab_lt HT.out))
          have rG := P1.out.range
          have hgg := P1.out.at'.g
          rw [Nat.zero_add] at hgg
          have cg := Grd_fld hgg k hk
          clear hgg tG tF
          refine Code.wp_mono (Q := fun e a w' => e = .normal ∧ ∃ b, a = ⟨#[.agg (Grd G), .int .i64 (k : Int), .float .f32 r, .float .f32 x, .int .i64 y, .pointer (some ⟨w.heap.size, 0, none⟩), undef, undef, undef, undef, .pointer (some ⟨w.heap.size + 1, 0, none⟩), .pointer (some ⟨w.heap.size + 1 + 1, 0, none⟩), .int .i64 0, .int .i64 0, .pointer (some ⟨b, 0, none⟩), .int .i64 n0, undef, undef, undef, .int .i64 (k : Int), .int .i64 0, .int .i64 0, .bool false, undef, undef, undef, .float .f32 r, .bool true, .bool false, .bool false, .float .f32 x, .bool true, .bool false, .bool false, .bool false, .int .i64 y, .bool true, .bool false, .bool false, undef, undef, .tuple #[.agg (Grd A0), .int .i64 n0], .agg (Grd G), .int .i64 (k : Int), .int .i64 (k : Int), .pointer (some ⟨w.heap.size, 66, none⟩), .pointer (some ⟨w.heap.size, 66 + k, none⟩), .float .f32 (G.g k), .float .f32 r, .float .f32 t, .tuple #[.agg (Grd A0), .int .i64 n0], .agg (Grd A0), .int .i64 n0, undef, undef, undef, undef, undef, undef, undef, undef, undef, undef, undef, undef, undef, undef, undef, undef, undef, undef, undef, undef, undef, undef, undef, undef, undef, undef, undef, undef, undef, undef, undef], []⟩ ∧ V.heap.size ≤ b ∧ GBox w' b A0 ∧ Below V.heap.size V w') ?_ (wp_region_plan (ops' := regOf Tryd.f48 6) (.take 0 (.take 1 (.take 2 (.take 3 (.take 4 (.take 5 (.take 6 (.take 7 (.two 8 12 (.take 9 (.take 10 (.take 11 (.run 12 (.run 13 (.take 14 .fin)))))) (.run 8 (.take 9 (.take 10 (.take 11 (.run 13 (.take 14 .fin))))))))))))))) (Below V.heap.size V) (by kernel_rfl) (by kernel_rfl) (by kernel_rfl) (by kernel_rfl) (by kernel_rfl) (Below.refl _ _).drew ?_)
          rotate_left
          refine plan_load (some 42) 32 (.tmp 5) w.heap.size 0 (GrdL G) _ (by kernel_rfl) (by kernel_rfl) (by kernel_rfl) (by kernel_rfl) (by kernel_rfl) (fun w' hw' => range_kept (n := V.heap.size) rG (by omega) _ hw') Tryd.underlying32 rfl (by rw [GrdL_length]; exact infoGround) ?_
          refine plan_pure (some 43) (.int .i64 (k : Int)) (by kernel_rfl) (by kernel_rfl) (by kernel_rfl) (fun _ => by kernel_rfl) ?_
          refine plan_pure (some 44) (.int .i64 (k : Int)) (by kernel_rfl) (by kernel_rfl) (by kernel_rfl) (fun _ => by kernel_rfl) ?_
          refine plan_pure (some 45) (.pointer (some ⟨w.heap.size, 66, none⟩)) (by kernel_rfl) (by kernel_rfl) (by kernel_rfl) (fun _ => by kernel_rfl) ?_
          refine plan_pure (some 46) (.pointer (some ⟨w.heap.size, 66 + k, none⟩)) (by kernel_rfl) (by kernel_rfl) (by kernel_rfl) (index_fld (x := .tmp 45) (y := .tmp 44) (o := 66) (by kernel_rfl) (by kernel_rfl) (by kernel_rfl) hk) ?_
          refine plan_take (some 47) (.float .f32 (G.g k)) (by kernel_rfl) (by kernel_rfl) (.inl ⟨(by kernel_rfl), fun w' hw' => load_cell (ty := 23) (x := .tmp 46) (b := w.heap.size) (o := 66 + k) (by kernel_rfl) (by kernel_rfl) Tryd.underlying23 rfl (kc cg (by show w.heap.size < _; omega) w' hw')⟩) ?_
          refine plan_pure (some 48) (.float .f32 r) (by kernel_rfl) (by kernel_rfl) (by kernel_rfl) (fun _ => by kernel_rfl) ?_
          refine plan_pure (some 49) (.float .f32 t) (by kernel_rfl) (by kernel_rfl) (by kernel_rfl) (fun w' => sub_op (ty := 23) (tz := 23) (p := .tmp 47) (q := .tmp 48) (by kernel_rfl) (by kernel_rfl) (by kernel_rfl) ht w') ?_
          have b0 : Below V.heap.size V V.drew := (Below.refl _ _).drew
          obtain ⟨x0, hx0⟩ : ∃ x, V.drew = x := ⟨_, rfl⟩
          rw [hx0] at b0 ⊢
          clear hx0
          refine plan_two ?_ ?_
          · skip
            refine plan_call (some 50) 84 #[.agg (Grd G), .int .i64 (k : Int), .float .f32 t] (by kernel_rfl) (by kernel_rfl) (by kernel_rfl) (by kernel_rfl) ?_
            have hc := implWithGain_any G k t x0 HG.out (by omega) (by omega) hft (TV.out.below b0 (tab_lt TV.out))
            rw [HP.out] at hc
            refine hc.mono ?_
            clear hc
            rintro _ x1 ⟨rfl, h1⟩
            have b1 : Below V.heap.size V x1 := below_step b0 h1 b0.size
            refine ⟨_, rfl, b1, ?_⟩
            refine plan_pure (some 41) (.tuple #[.agg (Grd A0), .int .i64 n0]) (by kernel_rfl) (by kernel_rfl) (by kernel_rfl) (fun _ => by kernel_rfl) ?_
            refine plan_pure (some 51) (.agg (Grd A0)) (by kernel_rfl) (by kernel_rfl) (by kernel_rfl) (fun _ => by kernel_rfl) ?_
            refine plan_pure (some 52) (.int .i64 n0) (by kernel_rfl) (by kernel_rfl) (by kernel_rfl) (fun _ => by kernel_rfl) ?_
            refine plan_do (some 14) (.pointer (some ⟨x1.heap.size, 0, none⟩)) (x1.alloc (.cells (Grd zG) 32)) (by kernel_rfl) (by kernel_rfl) (by kernel_rfl) (.inl (alloc_op2 _ (by kernel_rfl) hz)) (b1.alloc b1.size _) ?_
            have r2 : GBox (x1.alloc (.cells (Grd zG) 32)) x1.heap.size zG := .of_row (heap_alloc_last _ _)
            have b2 : Below V.heap.size V (x1.alloc (.cells (Grd zG) 32)) := b1.alloc b1.size _
            have l2 : V.heap.size ≤ x1.heap.size := b1.size
            obtain ⟨x2, hx2⟩ : ∃ x, x1.alloc (.cells (Grd zG) 32) = x := ⟨_, rfl⟩
            rw [hx2] at r2 b2 ⊢
            clear hx2
            refine plan_do none undef (x2.setCells x1.heap.size 0 (Grd A0).toList) (by kernel_rfl) (by kernel_rfl) (by kernel_rfl) (.inr ⟨store_op (x := .tmp 14) (y := .tmp 51) (by kernel_rfl) (by kernel_rfl) (by kernel_rfl) (by rw [Grd_size]; exact r2.there) (by rw [Grd_size]; exact infoGround) (Grd_one _), rfl⟩) (below_setCells _ l2 _ _ _ b2) ?_
            refine plan_pure (some 15) (.int .i64 n0) (by kernel_rfl) (by kernel_rfl) (by kernel_rfl) (fun _ => by kernel_rfl) ?_
            refine plan_end (NoPanic.normal ⟨rfl, x1.heap.size, by kernel_rfl, l2, r2.store, below_setCells _ l2 _ _ _ b2⟩)
          · skip
            refine plan_do (some 14) (.pointer (some ⟨x0.heap.size, 0, none⟩)) (x0.alloc (.cells (Grd zG) 32)) (by kernel_rfl) (by kernel_rfl) (by kernel_rfl) (.inl (alloc_op2 _ (by kernel_rfl) hz)) (b0.alloc b0.size _) ?_
            have r1 : GBox (x0.alloc (.cells (Grd zG) 32)) x0.heap.size zG := .of_row (heap_alloc_last _ _)
            have b1 : Below V.heap.size V (x0.alloc (.cells (Grd zG) 32)) := b0.alloc b0.size _
            have l1 : V.heap.size ≤ x0.heap.size := b0.size
            obtain ⟨x1, hx1⟩ : ∃ x, x0.alloc (.cells (Grd zG) 32) = x := ⟨_, rfl⟩
            rw [hx1] at r1 b1 ⊢
            clear hx1
            refine plan_call (some 50) 84 #[.agg (Grd G), .int .i64 (k : Int), .float .f32 t] (by kernel_rfl) (by kernel_rfl) (by kernel_rfl) (by kernel_rfl) ?_
            have hc := implWithGain_any G k t x1 HG.out (by omega) (by omega) hft (TV.out.below b1 (tab_lt TV.out))
            rw [HP.out] at hc
            refine hc.mono ?_
            clear hc
            rintro _ x2 ⟨rfl, h2⟩
            have b2 : Below V.heap.size V x2 := below_step b1 h2 b1.size
            refine ⟨_, rfl, b2, ?_⟩
            have r2 := r1.below h2 r1.lt
            refine plan_pure (some 41) (.tuple #[.agg (Grd A0), .int .i64 n0]) (by kernel_rfl) (by kernel_rfl) (by kernel_rfl) (fun _ => by kernel_rfl) ?_
            refine plan_pure (some 51) (.agg (Grd A0)) (by kernel_rfl) (by kernel_rfl) (by kernel_rfl) (fun _ => by kernel_rfl) ?_
            refine plan_pure (some 52) (.int .i64 n0) (by kernel_rfl) (by kernel_rfl) (by kernel_rfl) (fun _ => by kernel_rfl) ?_
            refine plan_do none undef (x2.setCells x0.heap.size 0 (Grd A0).toList) (by kernel_rfl) (by kernel_rfl) (by kernel_rfl) (.inr ⟨store_op (x := .tmp 14) (y := .tmp 51) (by kernel_rfl) (by kernel_rfl) (by kernel_rfl) (by rw [Grd_size]; exact r2.there) (by rw [Grd_size]; exact infoGround) (Grd_one _), rfl⟩) (below_setCells _ l1 _ _ _ b2) ?_
            refine plan_pure (some 15) (.int .i64 n0) (by kernel_rfl) (by kernel_rfl) (by kernel_rfl) (fun _ => by kernel_rfl) ?_
            refine plan_end (NoPanic.normal ⟨rfl, x0.heap.size, by kernel_rfl, l1, r2.store, below_setCells _ l1 _ _ _ b2⟩)
          rintro _ _ U ⟨rfl, b, rfl, lb, gU, hVU⟩
          have GU := Lib.hid gU
          have Q1 := Lib.hid (P1.out.below hVU (by omega))
          have Q2 := Lib.hid (P2.out.below hVU (by omega))
          have Q3 := Lib.hid (P3.out.below hVU (by omega))
          have QB := Lib.hid (B1.out.trans (hVU.mono (by omega)))
          have zU := hVU.size
          clear gU hVU P1 P2 P3 rG cg
          cases hvp : validB Pm
          · obtain rfl : n0 = 4 := by rw [← hn0]; simp [madeN, hvp]
            have HE := Lib.hid (show pumpR G (k : Int) r x y = (zG, zf, 4) by rw [hE, hvp]; rfl)
            clear hE hvp hn0
            have tG := Q2.out.there
            have tF := fun (vs : List Value) => World.there_setCells Q3.out.there (w.heap.size + 1) 0 vs
            go_wp2_with (first | (refine st_stage 32 rfl ?_; refine wpList_store_mid rfl 32 _ _ rfl _ 0 (Grd (zG)) rfl rfl (by rw [Grd_size]; with_reducible exact tG) (by rw [Grd_size]; exact infoGround) (Grd_one _) ?_) | (refine st_stage 30 rfl ?_; refine wpList_store_mid rfl 30 _ _ rfl _ 0 (Fld (zf)) rfl rfl (by rw [Fld_size]; with_reducible exact (tF _)) (by rw [Fld_size]; exact infoField) (Fld_one _) ?_))
            have hX := both_stored (A := zG) (g := zf) (by omega : w.heap.size + 1 ≠ w.heap.size + 1 + 1) (by omega) (by omega) Q2.out Q3.out QB.out
            refine bodyPost_ret (results_gFi rfl _ _ _ _ zG zf 4 rfl rfl rfl hX.1 hX.2.1 Tryd.underlying32 rfl infoG195 Tryd.underlying30 rfl infoField) rfl ⟨by unfold pumpV; rw [HE.out], hX.2.2⟩
          · obtain rfl : n0 = 0 := by rw [← hn0]; simp [madeN, hvp]
            obtain rfl : A0 = Pm := by rw [← hA0]; simp [madeG, hvp]
            obtain ⟨R, hR⟩ : ∃ R, settR x y.toNat 1 A0 = R := ⟨_, rfl⟩
            have hgood := fun h => settR_good y.toNat 1 A0 hvp OP.out (show (settR x y.toNat 1 A0).2.2 = 0 from h)
            rw [hR] at hgood hE
            have HS := Lib.hid (show setV A0 x y = tripV R by unfold setV setR; rw [hvp, Hx.out, Hy.out]; rw [← hR]; rfl)
            obtain ⟨A, a, n⟩ := R
            have rA := GU.out.range
            clear hR hn0 hA0
            by_cases hn : n = 0
            · subst hn
              obtain ⟨vA, oA, ea, eb⟩ := hgood rfl
              have HE := Lib.hid (show pumpR G (k : Int) r x y = (A, chF G A, 0) by rw [hE, hvp]; rfl)
              have he : sameE G A = true := by unfold sameE; rw [ea, eb, hew.1, hew.2]; simp
              have HC := Lib.hid (show chV G A = .tuple #[.agg (Fld (chF G A)), .int .i64 0] by unfold chV; rw [HV.out, vA, he]; rfl)
              have OA := Lib.hid oA
              clear hE hvp hgood vA oA ea eb hew he
              have r5 := Q1.out.range
              go_upto_region 15 with (first | (refine ld_stage 32 rfl ?_; refine wpList_load_mid rfl 32 _ rfl (b) 0 rfl (GrdL (A0)) _ rA Tryd.underlying32 rfl (by rw [GrdL_length]; exact infoGround) ?_) | (refine ld_stage 32 rfl ?_; refine wpList_load_mid rfl 32 _ rfl (w.heap.size) 0 rfl (GrdL (G)) _ rg Tryd.underlying32 rfl (by rw [GrdL_length]; exact infoGround) ?_) | (refine ld_stage 32 rfl ?_; refine wpList_load_mid rfl 32 _ rfl (V1.heap.size) 0 rfl (GrdL (A)) _ ra Tryd.underlying32 rfl (by rw [GrdL_length]; exact infoGround) ?_) | (go_at_call 46; have hc := implSettle_any A0 x y U OP.out (HT.out.below QB.out (tab_lt HT.out)); rw [HS.out] at hc; simp only [tripV] at hc; refine hc.mono ?_; clear hc; rintro e V1 ⟨rfl, hV1⟩) | (refine st_stage 32 rfl ?_; refine wpList_store_mid rfl 32 _ _ rfl _ 0 (Grd A) rfl rfl (by rw [Grd_size]; with_reducible exact new_thereG _ V1) (by rw [Grd_size]; exact infoGround) (Grd_one _) ?_; obtain ⟨X1, hX, zX1, gX1, bX1⟩ := stored_box A 32 V1; rw [hX]; have kX := hV1.trans (bX1.mono hV1.size); have S1 := Lib.hid (Q1.out.below kX (by omega)); have S2 := Lib.hid (Q2.out.below kX (by omega)); have S3 := Lib.hid (Q3.out.below kX (by omega)); have SB := Lib.hid (QB.out.trans (kX.mono (by omega))); have GA := Lib.hid gX1; have ra := gX1.range; have rg := S1.out.range; have zX := kX.size; have zv1 := hV1.size; have zx1 : V1.heap.size < X1.heap.size := (by omega); clear hX zX1 gX1 bX1 kX hV1) | (go_at_call 29; have hc := implChanges_any G A X1 HG.out OA.out (HT.out.below SB.out (tab_lt HT.out)); rw [HC.out] at hc; refine hc.mono ?_; clear hc; rintro e V2 ⟨rfl, hV2⟩) | (refine st_stage 30 rfl ?_; refine wpList_store_mid rfl 30 _ _ rfl _ 0 (Fld (chF G A)) rfl rfl (by rw [Fld_size]; with_reducible exact new_thereF _ V2) (by rw [Fld_size]; exact infoField) (Fld_one _) ?_; obtain ⟨X2, hX, zX2, rF, bX2⟩ := stored_fld (chF G A) 30 V2; rw [hX]; have kY := hV2.trans (bX2.mono hV2.size); have R2 := Lib.hid (S2.out.below kY (by omega)); have R3 := Lib.hid (S3.out.below kY (by omega)); have RB := Lib.hid (SB.out.trans (kY.mono (by omega))); have rA2 := (GA.out.below kY GA.out.lt).range; have zY := kY.size; have zv2 := hV2.size; have zx2 : V2.heap.size < X2.heap.size := (by omega); clear hX zX2 bX2 kY hV2))
              refine wp_region_plan (ops' := regOf Tryd.f48 15) (.take 0 (.take 1 (.run 2 (.run 3 (.take 4 .fin))))) (fun Z => Z.rangeAt V1.heap.size 0 (GrdL A) ∧ Z.rangeAt V2.heap.size 0 (Fld (chF G A)).toList) (by kernel_rfl) (by kernel_rfl) (by kernel_rfl) (by kernel_rfl) (by kernel_rfl) ⟨Quiet.range ((Quiet.refl X2).drewN 1) rA2, Quiet.range ((Quiet.refl X2).drewN 1) rF⟩ ?_
              obtain ⟨Z, hZ⟩ : ∃ Z, X2.drew = Z := ⟨_, rfl⟩
              have qZ : Quiet X2 Z := by rw [← hZ]; exact (Quiet.refl _).drewN 1
              rw [hZ]
              clear hZ
              have Z2 := Lib.hid (R2.out.below (qZ.below (X2.heap.size)) R2.out.lt)
              have Z3 := Lib.hid (R3.out.below (qZ.below (X2.heap.size)) (by omega))
              have ZB := Lib.hid (RB.out.trans (qZ.below _))
              have sA := Quiet.range qZ rA2
              have sF := Quiet.range qZ rF
              refine plan_load (some 82) 32 (.tmp 16) V1.heap.size 0 (GrdL A) _ (by kernel_rfl) (by kernel_rfl) (by kernel_rfl) (by kernel_rfl) (by kernel_rfl) (fun w' hw' => hw'.1) Tryd.underlying32 rfl (by rw [GrdL_length]; exact infoGround) ?_
              refine plan_load (some 83) 30 (.tmp 18) V2.heap.size 0 (Fld (chF G A)).toList _ (by kernel_rfl) (by kernel_rfl) (by kernel_rfl) (by kernel_rfl) (by kernel_rfl) (fun w' hw' => hw'.2) Tryd.underlying30 rfl (by rw [Fld_length]; exact infoField) ?_
              refine plan_do none undef (Z.setCells (w.heap.size + 1) 0 (Grd A).toList) (by kernel_rfl) (by kernel_rfl) (by kernel_rfl) (.inr ⟨store_op (x := .tmp 10) (y := .tmp 82) (cs := Grd A) (by kernel_rfl) (by kernel_rfl) (by kernel_rfl) (by rw [Grd_size]; exact Z2.out.there) (by rw [Grd_size]; exact infoGround) (Grd_one _), rfl⟩) ⟨World.rangeAt_setCells_apart sA _ _ _ (.inl (by omega)), World.rangeAt_setCells_apart sF _ _ _ (.inl (by omega))⟩ ?_
              refine plan_do none undef ((Z.setCells (w.heap.size + 1) 0 (Grd A).toList).setCells (w.heap.size + 1 + 1) 0 (Fld (chF G A)).toList) (by kernel_rfl) (by kernel_rfl) (by kernel_rfl) (.inr ⟨store_op (x := .tmp 11) (y := .tmp 83) (cs := Fld (chF G A)) (by kernel_rfl) (by kernel_rfl) (by kernel_rfl) (by rw [Fld_size]; exact World.there_setCells Z3.out.there _ _ _) (by rw [Fld_size]; exact infoField) (Fld_one _), rfl⟩) ⟨World.rangeAt_setCells_apart (World.rangeAt_setCells_apart sA _ _ _ (.inl (by omega))) _ _ _ (.inl (by omega)), World.rangeAt_setCells_apart (World.rangeAt_setCells_apart sF _ _ _ (.inl (by omega))) _ _ _ (.inl (by omega))⟩ ?_
              refine plan_pure (some 12) (.int .i64 0) (by kernel_rfl) (by kernel_rfl) (by kernel_rfl) (fun _ => by kernel_rfl) (plan_end (NoPanic.normal ?_))
              simp only [Act.put, List.setIfInBounds_toArray, List.set_cons_zero, List.set_cons_succ]
              go_wp2
              have hX := both_stored (A := A) (g := chF G A) (by omega : w.heap.size + 1 ≠ w.heap.size + 1 + 1) (by omega) (by omega) Z2.out Z3.out ZB.out
              refine bodyPost_ret (results_gFi rfl _ _ _ _ A (chF G A) 0 rfl rfl rfl hX.1 hX.2.1 Tryd.underlying32 rfl infoG195 Tryd.underlying30 rfl infoField) rfl ⟨by unfold pumpV; rw [HE.out], hX.2.2⟩
            · have HE := Lib.hid (show pumpR G (k : Int) r x y = (zG, zf, n) by rw [hE, hvp]; simp [hn])
              have hb1 : (n == 0) = false := by simpa using hn
              have hb2 : (n != 0) = true := by simpa using hn
              clear hE hvp hgood hew
              go_upto_region 11 with (first | (refine ld_stage 32 rfl ?_; refine wpList_load_mid rfl 32 _ rfl (b) 0 rfl (GrdL (A0)) _ rA Tryd.underlying32 rfl (by rw [GrdL_length]; exact infoGround) ?_) | (go_at_call 46; have hc := implSettle_any A0 x y U OP.out (HT.out.below QB.out (tab_lt HT.out)); rw [HS.out] at hc; simp only [tripV] at hc; refine hc.mono ?_; clear hc; rintro e V1 ⟨rfl, hV1⟩) | (refine st_stage 32 rfl ?_; refine wpList_store_mid rfl 32 _ _ rfl _ 0 (Grd A) rfl rfl (by rw [Grd_size]; with_reducible exact new_thereG _ V1) (by rw [Grd_size]; exact infoGround) (Grd_one _) ?_; obtain ⟨X1, hX, zX1, gX1, bX1⟩ := stored_box A 32 V1; rw [hX]; have kX := hV1.trans (bX1.mono hV1.size); have S2 := Lib.hid (Q2.out.below kX (by omega)); have S3 := Lib.hid (Q3.out.below kX (by omega)); have SB := Lib.hid (QB.out.trans (kX.mono (by omega))); clear hX zX1 gX1 bX1 kX hV1))
              have tG := S2.out.there
              have tF := fun (vs : List Value) => World.there_setCells S3.out.there (w.heap.size + 1) 0 vs
              go_wp2_with (first | (refine st_stage 32 rfl ?_; refine wpList_store_mid rfl 32 _ _ rfl _ 0 (Grd (zG)) rfl rfl (by rw [Grd_size]; with_reducible exact tG) (by rw [Grd_size]; exact infoGround) (Grd_one _) ?_) | (refine st_stage 30 rfl ?_; refine wpList_store_mid rfl 30 _ _ rfl _ 0 (Fld (zf)) rfl rfl (by rw [Fld_size]; with_reducible exact (tF _)) (by rw [Fld_size]; exact infoField) (Fld_one _) ?_))
              have hX := both_stored (A := zG) (g := zf) (by omega : w.heap.size + 1 ≠ w.heap.size + 1 + 1) (by omega) (by omega) S2.out S3.out SB.out
              refine bodyPost_ret (results_gFi rfl _ _ _ _ zG zf n rfl rfl rfl hX.1 hX.2.1 Tryd.underlying32 rfl infoG195 Tryd.underlying30 rfl infoField) rfl ⟨by unfold pumpV; rw [HE.out], hX.2.2⟩
  · have hb1 : (askedN G c == 0) = false := by simpa using ha
    have HE := Lib.hid (show pumpR G c r x y = (zG, zf, askedN G c) by simp [pumpR, ha])
    obtain ⟨n, hn⟩ : ∃ n, askedN G c = n := ⟨_, rfl⟩
    rw [hn] at hb1 HE
    have hb2 : (n != 0) = true := by simpa using hb1
    have hb3 : ¬ n = 0 := by simpa using hb1
    have HA := Lib.hid hn
    clear hn ha
    go_wp2_with (first | (go_at_call 63; have hc := (checkCell_any G c l1 l2 w.heap.size W G1.out.at' (by omega) HG.out TW.out); rw [HA.out] at hc; refine hc.mono ?_; clear hc; rintro e V ⟨rfl, hb1⟩; have P1 := Lib.hid (G1.out.below hb1 (by omega)); have P2 := Lib.hid (G2.out.below hb1 (by omega)); have P3 := Lib.hid (G3.out.below hb1 (by omega)); have B1 := Lib.hid (HB.out.trans (hb1.mono (by omega))); have zV : w.heap.size + 1 + 1 < V.heap.size := (by have := hb1.size; omega); have tG := P2.out.there; have tF := fun (vs : List Value) => World.there_setCells P3.out.there (w.heap.size + 1) 0 vs; clear hb1) | (refine st_stage 32 rfl ?_; refine wpList_store_mid rfl 32 _ _ rfl _ 0 (Grd (zG)) rfl rfl (by rw [Grd_size]; with_reducible exact tG) (by rw [Grd_size]; exact infoGround) (Grd_one _) ?_) | (refine st_stage 30 rfl ?_; refine wpList_store_mid rfl 30 _ _ rfl _ 0 (Fld (zf)) rfl rfl (by rw [Fld_size]; with_reducible exact (tF _)) (by rw [Fld_size]; exact infoField) (Fld_one _) ?_))
    have hX := both_stored (A := zG) (g := zf) (by omega : w.heap.size + 1 ≠ w.heap.size + 1 + 1) (by omega) (by omega) P2.out P3.out B1.out
    refine bodyPost_ret (results_gFi rfl _ _ _ _ zG zf n rfl rfl rfl hX.1 hX.2.1 Tryd.underlying32 rfl infoG195 Tryd.underlying30 rfl infoField) rfl ⟨by unfold pumpV; rw [HE.out], hX.2.2⟩

set_option maxRecDepth 100000 in
set_option maxHeartbeats 2000000 in
theorem specPump_any (G : Gd) (c : Int) (r x : Nat) (y : Int) (w : World) (hG : GdOk G) :
    Calls Tryd.prog 47 #[.agg (Grd G), .int .i64 c, .float .f32 r, .float .f32 x, .int .i64 y] w fun e w' => e = .returned (pumpV G c r x y) ∧ Below w.heap.size w w' := by
  have hz := (zero_of_info zeroGround).1
  have hzf := (zero_of_info zeroField).1
  go_enter Tryd.func47, Tryd.ntmps47
  go_upto_region 1 with (fail)
  obtain ⟨W, hW, zW, g1, g2, g3, hB⟩ := ggr_box G zG zf 32 32 30 w
  rw [hW]
  clear hW
  have G1 := Lib.hid g1
  have G2 := Lib.hid g2
  have G3 := Lib.hid g3
  have HB := Lib.hid hB
  have HG := Lib.hid hG
  have hl : w.heap.size + 1 + 1 < W.heap.size := by omega
  clear zW g1 g2 g3 hB hG
  by_cases ha : askedN G c = 0
  · obtain ⟨k, rfl, hk, hv, hi⟩ := asked_in ha
    have HA := Lib.hid ha
    cases hr : plainB r
    · have Hr := Lib.hid hr
      have HE := Lib.hid (show pumpR G k r x y = (zG, zf, 2) by simp [pumpR, ha, hr])
      clear ha hr
      go_wp2_with (first | (go_at_call 60; have hc := (l01Asked_any G k w.heap.size W G1.out.at' HG.out); rw [HA.out] at hc; refine hc.mono ?_; clear hc; rintro e w' ⟨rfl, n1, rfl⟩; obtain ⟨V, hV⟩ : ∃ V, World.drewN W n1 = V := ⟨_, rfl⟩; have hb1 : Below W.heap.size W V := (by rw [← hV]; exact Quiet.below ⟨n1, rfl⟩ _); rw [hV]; have P1 := Lib.hid (G1.out.below hb1 (by omega)); have P2 := Lib.hid (G2.out.below hb1 (by omega)); have P3 := Lib.hid (G3.out.below hb1 (by omega)); have B1 := Lib.hid (HB.out.trans (hb1.mono (by omega))); have zV : w.heap.size + 1 + 1 < V.heap.size := (by have := hb1.size; omega); have tG := P2.out.there; have tF := fun (vs : List Value) => World.there_setCells P3.out.there (w.heap.size + 1) 0 vs; clear hb1 hV) | (go_at_call 66; refine (l01Plain_is r false Hr.out _).mono ?_; rintro e w' ⟨rfl, hww⟩; rw [hww]; clear hww w') | (refine st_stage 32 rfl ?_; refine wpList_store_mid rfl 32 _ _ rfl _ 0 (Grd (zG)) rfl rfl (by rw [Grd_size]; with_reducible exact tG) (by rw [Grd_size]; exact infoGround) (Grd_one _) ?_) | (refine st_stage 30 rfl ?_; refine wpList_store_mid rfl 30 _ _ rfl _ 0 (Fld (zf)) rfl rfl (by rw [Fld_size]; with_reducible exact (tF _)) (by rw [Fld_size]; exact infoField) (Fld_one _) ?_))
      have hX := both_stored (A := zG) (g := zf) (by omega : w.heap.size + 1 ≠ w.heap.size + 1 + 1) (by omega) (by omega) P2.out P3.out B1.out
      refine bodyPost_ret (results_gFi rfl _ _ _ _ zG zf 2 rfl rfl rfl hX.1 hX.2.1 Tryd.underlying32 rfl infoG195 Tryd.underlying30 rfl infoField) rfl ⟨by unfold pumpV; rw [HE.out], hX.2.2⟩
    · have Hr := Lib.hid hr
      cases hx : amtB x
      · have Hx := Lib.hid hx
        have HE := Lib.hid (show pumpR G k r x y = (zG, zf, 2) by simp [pumpR, ha, hr, hx])
        clear ha hr hx
        go_wp2_with (first | (go_at_call 60; have hc := (l01Asked_any G k w.heap.size W G1.out.at' HG.out); rw [HA.out] at hc; refine hc.mono ?_; clear hc; rintro e w' ⟨rfl, n1, rfl⟩; obtain ⟨V, hV⟩ : ∃ V, World.drewN W n1 = V := ⟨_, rfl⟩; have hb1 : Below W.heap.size W V := (by rw [← hV]; exact Quiet.below ⟨n1, rfl⟩ _); rw [hV]; have P1 := Lib.hid (G1.out.below hb1 (by omega)); have P2 := Lib.hid (G2.out.below hb1 (by omega)); have P3 := Lib.hid (G3.out.below hb1 (by omega)); have B1 := Lib.hid (HB.out.trans (hb1.mono (by omega))); have zV : w.heap.size + 1 + 1 < V.heap.size := (by have := hb1.size; omega); have tG := P2.out.there; have tF := fun (vs : List Value) => World.there_setCells P3.out.there (w.heap.size + 1) 0 vs; clear hb1 hV) | (go_at_call 66; refine (l01Plain_is r true Hr.out _).mono ?_; rintro e w' ⟨rfl, hww⟩; rw [hww]; clear hww w') | (go_at_call 72; refine (l02Within_is x false Hx.out _).mono ?_; rintro e w' ⟨rfl, rfl⟩) | (refine st_stage 32 rfl ?_; refine wpList_store_mid rfl 32 _ _ rfl _ 0 (Grd (zG)) rfl rfl (by rw [Grd_size]; with_reducible exact tG) (by rw [Grd_size]; exact infoGround) (Grd_one _) ?_) | (refine st_stage 30 rfl ?_; refine wpList_store_mid rfl 30 _ _ rfl _ 0 (Fld (zf)) rfl rfl (by rw [Fld_size]; with_reducible exact (tF _)) (by rw [Fld_size]; exact infoField) (Fld_one _) ?_))
        have hX := both_stored (A := zG) (g := zf) (by omega : w.heap.size + 1 ≠ w.heap.size + 1 + 1) (by omega) (by omega) P2.out P3.out B1.out
        refine bodyPost_ret (results_gFi rfl _ _ _ _ zG zf 2 rfl rfl rfl hX.1 hX.2.1 Tryd.underlying32 rfl infoG195 Tryd.underlying30 rfl infoField) rfl ⟨by unfold pumpV; rw [HE.out], hX.2.2⟩
      · have Hx := Lib.hid hx
        cases hy : budB y
        · have Hy := Lib.hid hy
          have HE := Lib.hid (show pumpR G k r x y = (zG, zf, 2) by simp [pumpR, ha, hr, hx, hy])
          clear ha hr hx hy
          go_wp2_with (first | (go_at_call 60; have hc := (l01Asked_any G k w.heap.size W G1.out.at' HG.out); rw [HA.out] at hc; refine hc.mono ?_; clear hc; rintro e w' ⟨rfl, n1, rfl⟩; obtain ⟨V, hV⟩ : ∃ V, World.drewN W n1 = V := ⟨_, rfl⟩; have hb1 : Below W.heap.size W V := (by rw [← hV]; exact Quiet.below ⟨n1, rfl⟩ _); rw [hV]; have P1 := Lib.hid (G1.out.below hb1 (by omega)); have P2 := Lib.hid (G2.out.below hb1 (by omega)); have P3 := Lib.hid (G3.out.below hb1 (by omega)); have B1 := Lib.hid (HB.out.trans (hb1.mono (by omega))); have zV : w.heap.size + 1 + 1 < V.heap.size := (by have := hb1.size; omega); have tG := P2.out.there; have tF := fun (vs : List Value) => World.there_setCells P3.out.there (w.heap.size + 1) 0 vs; clear hb1 hV) | (go_at_call 66; refine (l01Plain_is r true Hr.out _).mono ?_; rintro e w' ⟨rfl, hww⟩; rw [hww]; clear hww w') | (go_at_call 72; refine (l02Within_is x true Hx.out _).mono ?_; rintro e w' ⟨rfl, rfl⟩) | (go_at_call 78; refine (l00InG_is y 0 2000 false Hy.out _).mono ?_; rintro e w' ⟨rfl, rfl⟩) | (refine st_stage 32 rfl ?_; refine wpList_store_mid rfl 32 _ _ rfl _ 0 (Grd (zG)) rfl rfl (by rw [Grd_size]; with_reducible exact tG) (by rw [Grd_size]; exact infoGround) (Grd_one _) ?_) | (refine st_stage 30 rfl ?_; refine wpList_store_mid rfl 30 _ _ rfl _ 0 (Fld (zf)) rfl rfl (by rw [Fld_size]; with_reducible exact (tF _)) (by rw [Fld_size]; exact infoField) (Fld_one _) ?_))
          have hX := both_stored (A := zG) (g := zf) (by omega : w.heap.size + 1 ≠ w.heap.size + 1 + 1) (by omega) (by omega) P2.out P3.out B1.out
          refine bodyPost_ret (results_gFi rfl _ _ _ _ zG zf 2 rfl rfl rfl hX.1 hX.2.1 Tryd.underlying32 rfl infoG195 Tryd.underlying30 rfl infoField) rfl ⟨by unfold pumpV; rw [HE.out], hX.2.2⟩
        · have Hy := Lib.hid hy
          obtain ⟨m, rfl⟩ : ∃ m : Nat, y = (m : Int) := ⟨y.toNat, by simp [budB] at hy; omega⟩
          have hm : m ≤ 2000 := by simp [budB] at hy; omega
          obtain ⟨t, ht, hft, hpm⟩ := sub_is hv hk hi hr
          obtain ⟨Pm, hPm⟩ : ∃ Pm, pmpG G k r = Pm := ⟨_, rfl⟩
          have hE : pumpR G (k : Int) r x (m : Int) = if validB Pm = true then (if (settR x m 1 Pm).2.2 = 0 then ((settR x m 1 Pm).1, chF G (settR x m 1 Pm).1, 0) else (zG, zf, (settR x m 1 Pm).2.2)) else (zG, zf, 4) := by simp [pumpR, ha, hr, hx, hy, hPm]
          have hPe : ({ G with g := upd G.g k t } : Gd) = Pm := hpm.symm.trans hPm
          have OP := Lib.hid (show GdOk Pm by rw [← hPe]; exact ok_pmp HG.out hft)
          have hew : Pm.wide = G.wide ∧ Pm.high = G.high := by rw [← hPe]; exact ⟨rfl, rfl⟩
          have HPe := Lib.hid hPe
          have HV := Lib.hid hv
          have HXP := Lib.hid (lee_plain hx)
          clear hpm hPm ha hr hx hy hv hi hPe
          go_upto_region 6 with (first | (go_at_call 60; have hc := (l01Asked_any G k w.heap.size W G1.out.at' HG.out); rw [HA.out] at hc; refine hc.mono ?_; clear hc; rintro e w' ⟨rfl, n1, rfl⟩; obtain ⟨V, hV⟩ : ∃ V, World.drewN W n1 = V := ⟨_, rfl⟩; have hb1 : Below W.heap.size W V := (by rw [← hV]; exact Quiet.below ⟨n1, rfl⟩ _); rw [hV]; have P1 := Lib.hid (G1.out.below hb1 (by omega)); have P2 := Lib.hid (G2.out.below hb1 (by omega)); have P3 := Lib.hid (G3.out.below hb1 (by omega)); have B1 := Lib.hid (HB.out.trans (hb1.mono (by omega))); have zV : w.heap.size + 1 + 1 < V.heap.size := (by have := hb1.size; omega); have tG := P2.out.there; have tF := fun (vs : List Value) => World.there_setCells P3.out.there (w.heap.size + 1) 0 vs; clear hb1 hV) | (go_at_call 66; refine (l01Plain_is r true Hr.out _).mono ?_; rintro e w' ⟨rfl, hww⟩; rw [hww]; clear hww w') | (go_at_call 72; refine (l02Within_is x true Hx.out _).mono ?_; rintro e w' ⟨rfl, rfl⟩) | (go_at_call 78; refine (l00InG_is (m : Int) 0 2000 true Hy.out _).mono ?_; rintro e w' ⟨rfl, rfl⟩))
          have rg := P1.out.range
          clear tG tF
          go_upto_region 7 with (first | (refine ld_stage 32 rfl ?_; refine wpList_load_mid rfl 32 _ rfl (w.heap.size) 0 rfl (GrdL (G)) _ rg Tryd.underlying32 rfl (by rw [GrdL_length]; exact infoGround) ?_) | (refine st_stage 32 rfl ?_; refine wpList_store_mid rfl 32 _ _ rfl _ 0 (Grd G) rfl rfl (by rw [Grd_size]; with_reducible exact new_thereG _ V) (by rw [Grd_size]; exact infoGround) (Grd_one _) ?_))
          obtain ⟨X0, hX0, zX0, gX0, bX0⟩ := stored_box G 32 V
          rw [hX0]
          have S0 := Lib.hid gX0
          have S1 := Lib.hid (P1.out.below bX0 (by omega))
          have S2 := Lib.hid (P2.out.below bX0 (by omega))
          have S3 := Lib.hid (P3.out.below bX0 (by omega))
          have SB := Lib.hid (B1.out.trans (bX0.mono (by omega)))
          have hgg := S1.out.at'.g
          rw [Nat.zero_add] at hgg
          have cg := Grd_fld hgg k hk
          have zx0 : V.heap.size < X0.heap.size := by omega
          have hk2 : (k : Int) < 64 := by omega
          clear hX0 zX0 gX0 bX0 hgg rg
          have tsub : True := trivial
          go_upto_region 8 with (have _t := tsub; refine wpList_float rfl _ _ _ _ _ rfl rfl .f32 _ _ rfl rfl ?_; intro r51 n51 hr51; obtain rfl := sub_num ht hr51; obtain ⟨Y, hY⟩ : ∃ Y, World.drewN X0 n51 = Y := ⟨_, rfl⟩; have qY : Quiet X0 Y := (by rw [← hY]; exact ⟨n51, rfl⟩); rw [hY]; have Y0 := Lib.hid (S0.out.below (qY.below X0.heap.size) S0.out.lt); have Y1 := Lib.hid (S1.out.below (qY.below X0.heap.size) S1.out.lt); have Y2 := Lib.hid (S2.out.below (qY.below X0.heap.size) S2.out.lt); have Y3 := Lib.hid (S3.out.below (qY.below X0.heap.size) (by omega)); have YB := Lib.hid (SB.out.trans (qY.below _)); have b0 := Y0.out.at_some (66 + k) (by omega); obtain ⟨u, hu⟩ := Option.isSome_iff_exists.1 b0; have f0 := Y0.out.free (66 + k) (by omega); clear tsub hr51 hY qY b0)
          obtain ⟨U, hU⟩ : ∃ U, Y.setCell ⟨V.heap.size, 66 + k, none⟩ (.float .f32 r51) = U := ⟨_, rfl⟩
          rw [hU]
          have GU := Lib.hid (show GBox U V.heap.size Pm by rw [← hU, ← HPe.out]; exact Y0.out.putG hk)
          have Q1 := Lib.hid (show GBox U w.heap.size G by rw [← hU]; exact Y1.out.far (by omega))
          have Q2 := Lib.hid (show GBox U (w.heap.size + 1) zG by rw [← hU]; exact Y2.out.far (by omega))
          have Q3 := Lib.hid (show RowAt U (w.heap.size + 1 + 1) zf by rw [← hU]; exact Y3.out.far _ _ (by omega))
          have QB := Lib.hid (show Below w.heap.size w U by rw [← hU]; exact YB.out.setCell (p := ⟨V.heap.size, 66 + k, none⟩) (by show w.heap.size ≤ V.heap.size; omega) _)
          clear hU S0 S1 S2 S3 SB Y0 Y1 Y2 Y3 YB cg hu f0
          cases hvp : validB Pm
          · have HE := Lib.hid (show pumpR G (k : Int) r x (m : Int) = (zG, zf, 4) by rw [hE, hvp]; rfl)
            have Hvp := Lib.hid hvp
            clear hE hvp
            go_wp2_with (first | (go_at_call 49; have hc := (l01Ok_any Pm V.heap.size U GU.out.at' OP.out); rw [Hvp.out] at hc; refine hc.mono ?_; clear hc; rintro e w' ⟨rfl, n2, rfl⟩; have R2 := Lib.hid (Q2.out.below (Quiet.below ⟨n2, rfl⟩ U.heap.size : Below U.heap.size U (World.drewN U n2)) Q2.out.lt); have R3 := Lib.hid (Q3.out.below (Quiet.below ⟨n2, rfl⟩ U.heap.size : Below U.heap.size U (World.drewN U n2)) (by have := Q2.out.lt; have := QB.out.size; have := GU.out.lt; omega)); have RB := Lib.hid (QB.out.trans (Quiet.below ⟨n2, rfl⟩ _ : Below w.heap.size U (World.drewN U n2))); have tG := R2.out.there; have tF := fun (vs : List Value) => World.there_setCells R3.out.there (w.heap.size + 1) 0 vs) | (refine st_stage 32 rfl ?_; refine wpList_store_mid rfl 32 _ _ rfl _ 0 (Grd (zG)) rfl rfl (by rw [Grd_size]; with_reducible exact tG) (by rw [Grd_size]; exact infoGround) (Grd_one _) ?_) | (refine st_stage 30 rfl ?_; refine wpList_store_mid rfl 30 _ _ rfl _ 0 (Fld (zf)) rfl rfl (by rw [Fld_size]; with_reducible exact (tF _)) (by rw [Fld_size]; exact infoField) (Fld_one _) ?_))
            have hX := both_stored (A := zG) (g := zf) (by omega : w.heap.size + 1 ≠ w.heap.size + 1 + 1) (by omega) (by omega) R2.out R3.out RB.out
            refine bodyPost_ret (results_gFi rfl _ _ _ _ zG zf 4 rfl rfl rfl hX.1 hX.2.1 Tryd.underlying32 rfl infoG195 Tryd.underlying30 rfl infoField) rfl ⟨by unfold pumpV; rw [HE.out], hX.2.2⟩
          · obtain ⟨R, hR⟩ : ∃ R, settR x m 1 Pm = R := ⟨_, rfl⟩
            have hgood := fun h => settR_good m 1 Pm hvp OP.out (show (settR x m 1 Pm).2.2 = 0 from h)
            rw [hR] at hgood hE
            have HS := Lib.hid (show tripV (settR x m 1 Pm) = tripV R by rw [hR])
            obtain ⟨A, a, n⟩ := R
            have Hvp := Lib.hid hvp
            clear hR
            go_upto_region 10 with (go_at_call 49; have hc := (l01Ok_any Pm V.heap.size U GU.out.at' OP.out); rw [Hvp.out] at hc; refine hc.mono ?_; clear hc; rintro e w' ⟨rfl, n2, rfl⟩)
            obtain ⟨U2, hU2⟩ : ∃ U2, World.drewN U n2 = U2 := ⟨_, rfl⟩
            have qU : Quiet U U2 := by rw [← hU2]; exact ⟨n2, rfl⟩
            rw [hU2]
            have zU := GU.out.lt
            have GU := Lib.hid (GU.out.below (qU.below U.heap.size) zU)
            have Q1 := Lib.hid (Q1.out.below (qU.below U.heap.size) (by omega))
            have Q2 := Lib.hid (Q2.out.below (qU.below U.heap.size) (by omega))
            have Q3 := Lib.hid (Q3.out.below (qU.below U.heap.size) (by omega))
            have QB := Lib.hid (QB.out.trans (qU.below _))
            have zU2 := GU.out.lt
            clear hU2 qU
            by_cases hn : n = 0
            · subst hn
              obtain ⟨vA, oA, ea, eb⟩ := hgood rfl
              have HE := Lib.hid (show pumpR G (k : Int) r x (m : Int) = (A, chF G A, 0) by rw [hE, hvp]; rfl)
              have he : sameE G A = true := by unfold sameE; rw [ea, eb, hew.1, hew.2]; simp
              have HC := Lib.hid (show chB G A = FB (chF G A) true by unfold chB; rw [he]; rfl)
              have OA := Lib.hid oA
              have VA := Lib.hid vA
              clear hE hvp hgood vA oA ea eb hew he
              go_upto_region 14 with (first | (go_at_call 82; have hc := l02Settle_any Pm x m hm HXP.out V.heap.size U2 GU.out Hvp.out OP.out; rw [HS.out] at hc; simp only [tripV] at hc; refine hc.mono ?_; clear hc; rintro e V1 ⟨rfl, hV1⟩) | (refine st_stage 32 rfl ?_; refine wpList_store_mid rfl 32 _ _ rfl _ 0 (Grd A) rfl rfl (by rw [Grd_size]; with_reducible exact new_thereG _ V1) (by rw [Grd_size]; exact infoGround) (Grd_one _) ?_; obtain ⟨X1, hX, zX1, gX1, bX1⟩ := stored_box A 32 V1; rw [hX]; have kX := hV1.trans (bX1.mono hV1.size); have S1 := Lib.hid (Q1.out.below kX (by omega)); have S2 := Lib.hid (Q2.out.below kX (by omega)); have S3 := Lib.hid (Q3.out.below kX (by omega)); have SB := Lib.hid (QB.out.trans (kX.mono (by omega))); have GA := Lib.hid gX1; have zX := kX.size; have zv1 := hV1.size; have zx1 : V1.heap.size < X1.heap.size := (by omega); clear hX zX1 gX1 bX1 kX hV1) | (go_at_call 69; have hc := l02Changes_any G A HG.out OA.out HV.out VA.out w.heap.size V1.heap.size X1 S1.out.at' GA.out.at' S1.out.lt GA.out.lt; rw [HC.out] at hc; simp only [FB] at hc; refine hc.mono ?_; clear hc; rintro e V2 ⟨rfl, hV2⟩) | (refine st_stage 30 rfl ?_; refine wpList_store_mid rfl 30 _ _ rfl _ 0 (Fld (chF G A)) rfl rfl (by rw [Fld_size]; with_reducible exact new_thereF _ V2) (by rw [Fld_size]; exact infoField) (Fld_one _) ?_; obtain ⟨X2, hX, zX2, rF, bX2⟩ := stored_fld (chF G A) 30 V2; rw [hX]; have kY := hV2.trans (bX2.mono hV2.size); have R2 := Lib.hid (S2.out.below kY (by omega)); have R3 := Lib.hid (S3.out.below kY (by omega)); have RB := Lib.hid (SB.out.trans (kY.mono (by omega))); have rA2 := (GA.out.below kY GA.out.lt).range; have zY := kY.size; have zv2 := hV2.size; have zx2 : V2.heap.size < X2.heap.size := (by omega); clear hX zX2 bX2 kY hV2))
              refine wp_region_plan (ops' := regOf Tryd.f47 14) (.take 0 (.take 1 (.run 2 (.run 3 (.take 4 .fin))))) (fun Z => Z.rangeAt V1.heap.size 0 (GrdL A) ∧ Z.rangeAt V2.heap.size 0 (Fld (chF G A)).toList) (by kernel_rfl) (by kernel_rfl) (by kernel_rfl) (by kernel_rfl) (by kernel_rfl) ⟨Quiet.range ((Quiet.refl X2).drewN 1) rA2, Quiet.range ((Quiet.refl X2).drewN 1) rF⟩ ?_
              obtain ⟨Z, hZ⟩ : ∃ Z, X2.drew = Z := ⟨_, rfl⟩
              have qZ : Quiet X2 Z := by rw [← hZ]; exact (Quiet.refl _).drewN 1
              rw [hZ]
              clear hZ
              have Z2 := Lib.hid (R2.out.below (qZ.below (X2.heap.size)) R2.out.lt)
              have Z3 := Lib.hid (R3.out.below (qZ.below (X2.heap.size)) (by omega))
              have ZB := Lib.hid (RB.out.trans (qZ.below _))
              have sA := Quiet.range qZ rA2
              have sF := Quiet.range qZ rF
              refine plan_load (some 74) 32 (.tmp 15) V1.heap.size 0 (GrdL A) _ (by kernel_rfl) (by kernel_rfl) (by kernel_rfl) (by kernel_rfl) (by kernel_rfl) (fun w' hw' => hw'.1) Tryd.underlying32 rfl (by rw [GrdL_length]; exact infoGround) ?_
              refine plan_load (some 75) 30 (.tmp 18) V2.heap.size 0 (Fld (chF G A)).toList _ (by kernel_rfl) (by kernel_rfl) (by kernel_rfl) (by kernel_rfl) (by kernel_rfl) (fun w' hw' => hw'.2) Tryd.underlying30 rfl (by rw [Fld_length]; exact infoField) ?_
              refine plan_do none undef (Z.setCells (w.heap.size + 1) 0 (Grd A).toList) (by kernel_rfl) (by kernel_rfl) (by kernel_rfl) (.inr ⟨store_op (x := .tmp 10) (y := .tmp 74) (cs := Grd A) (by kernel_rfl) (by kernel_rfl) (by kernel_rfl) (by rw [Grd_size]; exact Z2.out.there) (by rw [Grd_size]; exact infoGround) (Grd_one _), rfl⟩) ⟨World.rangeAt_setCells_apart sA _ _ _ (.inl (by omega)), World.rangeAt_setCells_apart sF _ _ _ (.inl (by omega))⟩ ?_
              refine plan_do none undef ((Z.setCells (w.heap.size + 1) 0 (Grd A).toList).setCells (w.heap.size + 1 + 1) 0 (Fld (chF G A)).toList) (by kernel_rfl) (by kernel_rfl) (by kernel_rfl) (.inr ⟨store_op (x := .tmp 11) (y := .tmp 75) (cs := Fld (chF G A)) (by kernel_rfl) (by kernel_rfl) (by kernel_rfl) (by rw [Fld_size]; exact World.there_setCells Z3.out.there _ _ _) (by rw [Fld_size]; exact infoField) (Fld_one _), rfl⟩) ⟨World.rangeAt_setCells_apart (World.rangeAt_setCells_apart sA _ _ _ (.inl (by omega))) _ _ _ (.inl (by omega)), World.rangeAt_setCells_apart (World.rangeAt_setCells_apart sF _ _ _ (.inl (by omega))) _ _ _ (.inl (by omega))⟩ ?_
              refine plan_pure (some 12) (.int .i64 0) (by kernel_rfl) (by kernel_rfl) (by kernel_rfl) (fun _ => by kernel_rfl) (plan_end (NoPanic.normal ?_))
              simp only [Act.put, List.setIfInBounds_toArray, List.set_cons_zero, List.set_cons_succ]
              go_wp2
              have hX := both_stored (A := A) (g := chF G A) (by omega : w.heap.size + 1 ≠ w.heap.size + 1 + 1) (by omega) (by omega) Z2.out Z3.out ZB.out
              refine bodyPost_ret (results_gFi rfl _ _ _ _ A (chF G A) 0 rfl rfl rfl hX.1 hX.2.1 Tryd.underlying32 rfl infoG195 Tryd.underlying30 rfl infoField) rfl ⟨by unfold pumpV; rw [HE.out], hX.2.2⟩
            · have HE := Lib.hid (show pumpR G (k : Int) r x (m : Int) = (zG, zf, n) by rw [hE, hvp]; simp [hn])
              have hb1 : (n == 0) = false := by simpa using hn
              have hb2 : (n != 0) = true := by simpa using hn
              clear hE hvp hgood hew
              go_upto_region 12 with (first | (go_at_call 82; have hc := l02Settle_any Pm x m hm HXP.out V.heap.size U2 GU.out Hvp.out OP.out; rw [HS.out] at hc; simp only [tripV] at hc; refine hc.mono ?_; clear hc; rintro e V1 ⟨rfl, hV1⟩) | (refine st_stage 32 rfl ?_; refine wpList_store_mid rfl 32 _ _ rfl _ 0 (Grd A) rfl rfl (by rw [Grd_size]; with_reducible exact new_thereG _ V1) (by rw [Grd_size]; exact infoGround) (Grd_one _) ?_; obtain ⟨X1, hX, zX1, gX1, bX1⟩ := stored_box A 32 V1; rw [hX]; have kX := hV1.trans (bX1.mono hV1.size); have S2 := Lib.hid (Q2.out.below kX (by omega)); have S3 := Lib.hid (Q3.out.below kX (by omega)); have SB := Lib.hid (QB.out.trans (kX.mono (by omega))); clear hX zX1 gX1 bX1 kX hV1))
              have tG := S2.out.there
              have tF := fun (vs : List Value) => World.there_setCells S3.out.there (w.heap.size + 1) 0 vs
              go_wp2_with (first | (refine st_stage 32 rfl ?_; refine wpList_store_mid rfl 32 _ _ rfl _ 0 (Grd (zG)) rfl rfl (by rw [Grd_size]; with_reducible exact tG) (by rw [Grd_size]; exact infoGround) (Grd_one _) ?_) | (refine st_stage 30 rfl ?_; refine wpList_store_mid rfl 30 _ _ rfl _ 0 (Fld (zf)) rfl rfl (by rw [Fld_size]; with_reducible exact (tF _)) (by rw [Fld_size]; exact infoField) (Fld_one _) ?_))
              have hX := both_stored (A := zG) (g := zf) (by omega : w.heap.size + 1 ≠ w.heap.size + 1 + 1) (by omega) (by omega) S2.out S3.out SB.out
              refine bodyPost_ret (results_gFi rfl _ _ _ _ zG zf n rfl rfl rfl hX.1 hX.2.1 Tryd.underlying32 rfl infoG195 Tryd.underlying30 rfl infoField) rfl ⟨by unfold pumpV; rw [HE.out], hX.2.2⟩
  · have hb1 : (askedN G c == 0) = false := by simpa using ha
    have HE := Lib.hid (show pumpR G c r x y = (zG, zf, askedN G c) by simp [pumpR, ha])
    obtain ⟨n, hn⟩ : ∃ n, askedN G c = n := ⟨_, rfl⟩
    rw [hn] at hb1 HE
    have hb2 : (n != 0) = true := by simpa using hb1
    have hb3 : ¬ n = 0 := by simpa using hb1
    have HA := Lib.hid hn
    clear hn ha
    go_wp2_with (first | (go_at_call 60; have hc := (l01Asked_any G c w.heap.size W G1.out.at' HG.out); rw [HA.out] at hc; refine hc.mono ?_; clear hc; rintro e w' ⟨rfl, n1, rfl⟩; obtain ⟨V, hV⟩ : ∃ V, World.drewN W n1 = V := ⟨_, rfl⟩; have hb1 : Below W.heap.size W V := (by rw [← hV]; exact Quiet.below ⟨n1, rfl⟩ _); rw [hV]; have P1 := Lib.hid (G1.out.below hb1 (by omega)); have P2 := Lib.hid (G2.out.below hb1 (by omega)); have P3 := Lib.hid (G3.out.below hb1 (by omega)); have B1 := Lib.hid (HB.out.trans (hb1.mono (by omega))); have zV : w.heap.size + 1 + 1 < V.heap.size := (by have := hb1.size; omega); have tG := P2.out.there; have tF := fun (vs : List Value) => World.there_setCells P3.out.there (w.heap.size + 1) 0 vs; clear hb1 hV) | (refine st_stage 32 rfl ?_; refine wpList_store_mid rfl 32 _ _ rfl _ 0 (Grd (zG)) rfl rfl (by rw [Grd_size]; with_reducible exact tG) (by rw [Grd_size]; exact infoGround) (Grd_one _) ?_) | (refine st_stage 30 rfl ?_; refine wpList_store_mid rfl 30 _ _ rfl _ 0 (Fld (zf)) rfl rfl (by rw [Fld_size]; with_reducible exact (tF _)) (by rw [Fld_size]; exact infoField) (Fld_one _) ?_))
    have hX := both_stored (A := zG) (g := zf) (by omega : w.heap.size + 1 ≠ w.heap.size + 1 + 1) (by omega) (by omega) P2.out P3.out B1.out
    refine bodyPost_ret (results_gFi rfl _ _ _ _ zG zf n rfl rfl rfl hX.1 hX.2.1 Tryd.underlying32 rfl infoG195 Tryd.underlying30 rfl infoField) rfl ⟨by unfold pumpV; rw [HE.out], hX.2.2⟩
end Go.Proofs.YtdhnneidkdoplaaDoor
