/- BalancesOf: the program's, on valid grounds. Condition: the table of math/bits is laid. -/
import Derived.Test.YtcfkkceidlpdkaaDoorBalsI
namespace Go.Proofs.YtcfkkceidlpdkaaDoor
open Go.RowKit Go.Shelf
attribute [local go_sem] Oper.semAt_some run_store_float
set_option linter.unusedSimpArgs false
set_option linter.unusedVariables false

theorem wpListIn_store_mid {F : Fence} {n : Nat} {P : Program} {ops : Array Oper} {rest : List Oper} {o : Oper} {a : Act} {w : World} {Q : Exit → Act → World → Prop} (hg : o.guard = none) (ty : TypeId) (x y : Operand) (ho : o.op = .store ty x y)
    (b k : Nat) (cells : Array Value) (hx : a.eval x = .pointer (some ⟨b, k, none⟩)) (hy : a.eval y = .agg cells) (ht : w.there b k cells.size) (hi : (P.info? ty).map (·.size) = some cells.size) (h1 : cells.all (·.oneCell') = true)
    (h : wpListIn F n P ops Q rest (a.put o.dst undef) (w.setCells b k cells.toList)) : wpListIn F n P ops Q (o :: rest) a w :=
  wpListIn_plain hg fun K hK => by
    have hrun := store_op (P := P) (w := w) ho hx hy ht hi h1
    unfold Oper.wpIn
    refine ⟨fun f hf => (by simp [Oper.about, ho] at hf), ?_⟩
    rw [Oper.semAt_plain F _ _ (by rw [ho]; intro c hc'; cases hc'), hrun]
    exact hK _ _ h

theorem isFinite_is (b : Nat) (r : Bool) (h : finB b = r) (w : World) : Calls Tryd.prog 60 #[.float .f32 b] w fun e w' => e = .returned (.bool r) ∧ Quiet w w' := by
  subst h
  exact isFinite_any b w

set_option maxRecDepth 100000 in
set_option maxHeartbeats 4000000 in
theorem implBalances_good (G : Gd) (w : World) (hG : GdOk G) (hT : TabAt w) (hv : validB G = true) :
    Calls Tryd.prog 22 #[.agg (Grd G)] w fun e w' => e = .returned (if allFin G = true then FN (balF G) 0 else FN zf 4) ∧ Below w.heap.size w w' := by
  obtain ⟨EV, hE⟩ : ∃ v, (if allFin G = true then FN (balF G) 0 else FN zf 4) = v := ⟨_, rfl⟩
  rw [hE]
  have HE := Lib.hid hE
  clear hE
  have hz := (zero_of_info zeroField).1
  refine (callsIn_wide (n := 6)).1 (callsIn_of_wp_marks Tryd.func22 rfl trivial ?_ rfl)
  simp only [Tryd.ntmps22, List.size_toArray, List.length_cons, List.length_nil, Nat.reduceAdd, Nat.reduceSub, Array.replicate_succ, Array.replicate_zero, List.push_toArray, List.append_toArray, List.nil_append, List.cons_append]
  refine wpIn_wide.2 ?_
  go_upto_region 1 with (fail)
  obtain ⟨W, hW, hs, g1, q1, c1, f1, hB⟩ := gri_box G zf 0 32 30 2 w
  rw [hW]
  clear hW
  have r1 := g1.range
  have hl0 : w.heap.size < W.heap.size := by omega
  have hl : w.heap.size + 1 < W.heap.size := by omega
  have hl2 : w.heap.size + 1 + 1 < W.heap.size := by omega
  have G1 := Lib.hid g1
  have Q1 := Lib.hid q1
  have HB := Lib.hid hB
  have HG := Lib.hid hG
  have HT := Lib.hid (hT.below hB (tab_lt hT))
  have glt := tab_lt hT
  have Hv := Lib.hid hv
  have C1 := Lib.hid c1
  have F1 := Lib.hid f1
  clear hs g1 q1 hB hT hv c1 f1 hG
  go_upto_region 3 with (first | (refine wpList_load_mid rfl 32 _ rfl w.heap.size 0 rfl (GrdL G) _ r1 Tryd.underlying32 rfl (by rw [GrdL_length]; exact infoGround) ?_) | (go_at_call 57; have hc := (validGround_any G W HG.out HT.out (tab_lt HT.out)); rw [Hv.out] at hc; refine hc.mono ?_; clear hc; rintro e V ⟨rfl, hb⟩))
  have zV := hb.size
  have hth := new_thereF 30 V
  clear r1
  go_upto_region 4 with (refine wpList_store_mid rfl 30 _ _ rfl _ 0 (Fld (zf)) rfl rfl (by rw [Fld_size]; with_reducible exact hth) (by rw [Fld_size]; exact infoField) (Fld_one _) ?_)
  obtain ⟨X, hX, zX, gX, bX⟩ := stored_fld zf 30 V
  have tX : X.there V.heap.size 0 64 := by
    rw [← hX]
    exact there_setCells (new_thereF _ V)
  rw [hX]
  have bWX : Below W.heap.size W X := hb.trans (bX.mono (by omega))
  have X1 := Lib.hid (G1.out.below bWX hl0)
  have X2 := Lib.hid (Q1.out.below bWX hl)
  have X3 := Lib.hid (kc C1.out hl2 _ bWX)
  have X4 := Lib.hid ((bWX.frozen (p := ⟨w.heap.size + 1 + 1, 0, none⟩) hl2).trans F1.out : X.frozen? ⟨w.heap.size + 1 + 1, 0, none⟩ = false)
  have X5 := Lib.hid (⟨gX, tX⟩ : RowAt X V.heap.size zf)
  have BX := Lib.hid (HB.out.trans (bWX.mono (by omega)))
  have TX := Lib.hid (HT.out.below bWX (tab_lt HT.out))
  have hNX : V.heap.size < X.heap.size := X5.out.lt
  obtain ⟨N, hN⟩ : ∃ N, V.heap.size = N := ⟨_, rfl⟩
  rw [hN] at X5 hNX zV ⊢
  clear hX hth gX bX tX bWX zX hN hb G1 Q1 C1 F1 HB HT
  have m64 := cellsN_lt G
  go_wp2_with (first | (go_at_call 59; refine (cells_valid G Hv.out _ _ X1.out.at').mono ?_; rintro e w' ⟨rfl, rfl⟩) | (go_at_call 58; refine (bitsIn_any (cellsN G) _).mono ?_; rintro e w' ⟨rfl, rfl⟩))
  obtain ⟨U, hU⟩ : ∃ U, X.alloc (.cells #[.int .u64 (cellsN G)] 25) = U := ⟨_, rfl⟩
  have hbU : Below X.heap.size X U := by rw [← hU]; exact (Below.refl _ _).alloc (Nat.le_refl _) _
  have cM : U.cell? ⟨X.heap.size, 0, none⟩ = some (.int .u64 (cellsN G)) := by rw [← hU]; exact cell_of_row _ _ 0 _ _ _ (heap_alloc_last X _)
  have zU : X.heap.size < U.heap.size := by rw [← hU]; simp
  have U1 := Lib.hid (X1.out.below hbU (by omega))
  have u2 := X2.out.below hbU (by omega)
  have u3 := kc X3.out (by omega) _ hbU
  have u4 : U.frozen? ⟨w.heap.size + 1 + 1, 0, none⟩ = false := (hbU.frozen (p := ⟨w.heap.size + 1 + 1, 0, none⟩) (by simp; omega)).trans X4.out
  have u5 := X5.out.below hbU hNX
  have BU := Lib.hid (BX.out.trans (hbU.mono (by omega)))
  have TU := TX.out.below hbU (tab_lt TX.out)
  rw [hU]
  clear hU hbU X1 X2 X3 X4 X5 BX TX
  refine (wpIn_wide (n := 6)).1 (wp_bits 12 13 5 X.heap.size (w.heap.size + 1) (cellsN G) m64 rfl cM TU (by omega) (by omega)
    (fun pre W2 => RowAt W2 N (fillF (balF G) pre) ∧ RowAt W2 (w.heap.size + 1) zf ∧ W2.cell? ⟨w.heap.size + 1 + 1, 0, none⟩ = some (.int .i64 0) ∧ W2.frozen? ⟨w.heap.size + 1 + 1, 0, none⟩ = false ∧ ∀ i ∈ pre, finO (balO G i) = true)
    (fun c pre W2 => c = .ret ∧ RowAt W2 (w.heap.size + 1) zf ∧ W2.cell? ⟨w.heap.size + 1 + 1, 0, none⟩ = some (.int .i64 4) ∧ ∃ i ∈ pre, finO (balO G i) = false)
    (fun s A B h ⟨a1, a2, a3, a4, a5⟩ => ⟨h.row a1, h.row a2, h.cell a3, (h.frozen a3).trans a4, a5⟩) (fun _ _ _ _ h ⟨a1, a2, a3, a4⟩ => ⟨a1, h.row a2, h.cell a3, a4⟩)
    ⟨RowAt.congr u5 (fillF_nil (balF G)), u2, u3, u4, fun i hi => (by cases hi)⟩ ?assign ?body ?done ?stop)
  case assign =>
    intro l x W K hK
    simp only [List.setIfInBounds_toArray, List.set_cons_zero, List.set_cons_succ] at hK ⊢
    gi_wp2
    exact hK
  case body =>
    rintro l pre x W2 ⟨a1, a2, a3, a4, a5⟩ hB2 hbit hx64
    simp only [List.setIfInBounds_toArray, List.set_cons_zero, List.set_cons_succ]
    have hi : isB G x.1 = true := by have := hbit; rw [cellsN_testBit] at this; simp at this; exact this.2
    have gp := Lib.hid (U1.out.below hB2 (by omega))
    have hzB := hB2.size
    have hx2 : (x.1 : Int) < 64 := by omega
    have A1 := Lib.hid a1
    have A2 := Lib.hid a2
    have A3 := Lib.hid a3
    have A4 := Lib.hid a4
    have A5 := Lib.hid a5
    have HI := Lib.hid hi
    have HB2 := Lib.hid hB2
    have hl6 : w.heap.size < W2.heap.size := by omega
    have hl7 : N < W2.heap.size := by omega
    clear a1 a2 a3 a4 a5 hi hB2 hbit u2 u3 u4 u5 cM TU
    gi_upto_region 7 with (refine ⟨trivial, ?_⟩; gi_at_call 54; refine CallsIn.inRound l ((callsIn_wide (n := 3)).2 ((implBalance_any G x.1 hx64 Hv.out w.heap.size W2 gp.out.at' hl6 HG.out).mono ?_)); rintro e W6 ⟨r, rfl, hr, hb⟩; have HR := Lib.hid hr; have Hb := Lib.hid hb; have cO := (A1.out.below hb hl7).cell x.1 hx64; have fO := (A1.out.below hb hl7).free x.1 hx64; clear hr hb)
    obtain ⟨Y, hY⟩ : ∃ Y, W6.setCell ⟨N, x.1, none⟩ (.float .f32 r) = Y := ⟨_, rfl⟩
    have hz6 := Hb.out.size
    have y1 := (A1.out.below Hb.out hl7).put x.1 r hx64
    have y2 := (A2.out.below Hb.out (by omega)).far (b' := N) x.1 (.float .f32 r) (by omega)
    have y3 : (W6.setCell ⟨N, x.1, none⟩ (.float .f32 r)).cell? ⟨w.heap.size + 1 + 1, 0, none⟩ = some (.int .i64 0) := (cell_other (fun e => by injection e; omega)).trans (kc A3.out (by omega) _ Hb.out)
    have y4 : (W6.setCell ⟨N, x.1, none⟩ (.float .f32 r)).frozen? ⟨w.heap.size + 1 + 1, 0, none⟩ = false := by rw [World.frozen?_setCell]; exact (Hb.out.frozen (p := ⟨w.heap.size + 1 + 1, 0, none⟩) (by simp; omega)).trans A4.out
    have y5 : KeepsOthers W2 (W6.setCell ⟨N, x.1, none⟩ (.float .f32 r)) := (KeepsOthers.of_below' Hb.out).trans (KeepsOthers.setCell _ _ _)
    have y6 : Below (w.heap.size + 1) W2 (W6.setCell ⟨N, x.1, none⟩ (.float .f32 r)) := (Hb.out.mono (by omega)).setCell (p := ⟨N, x.1, none⟩) (by simp; omega) _
    rw [hY] at y1 y2 y3 y4 y5 y6 ⊢
    have cY := y1.cell x.1 hx64
    rw [if_pos rfl] at cY
    have Y1 := Lib.hid y1
    have Y2 := Lib.hid y2
    have Y3 := Lib.hid y3
    have Y4 := Lib.hid y4
    have Y5 := Lib.hid y5
    have Y6 := Lib.hid y6
    clear hY cO fO y1 y2 y3 y4 y5 y6 A1 A2 A3 A4
    cases hf : finB r
    · have HF := Lib.hid hf
      gi_wp2_with (first | (refine ⟨trivial, ?_⟩; gi_at_call 60; refine CallsIn.inRound l ((callsIn_wide (n := 3)).2 ((isFinite_is r _ HF.out Y).mono ?_)); rintro e Y' ⟨rfl, hq⟩; have YQ := Lib.hid hq; have t2 := (Y2.out.quiet hq).there; clear hq) | (refine wpListIn_store_mid rfl 30 _ _ rfl _ 0 (Fld (zf)) rfl rfl (by rw [Fld_size]; with_reducible exact t2) (by rw [Fld_size]; exact infoField) (Fld_one _) ?_); obtain ⟨Z, hZ, z1, z2, z3, z4, z5, z6, z7⟩ := stored_row (g := zf) (Y2.out.quiet YQ.out) (c := w.heap.size + 1 + 1) (by omega); rw [hZ]; have z2' := z2 _ (kq Y3.out _ YQ.out); have z3' := z3.trans ((by obtain ⟨n, rfl⟩ := YQ.out; exact Y4.out) : Y'.frozen? ⟨w.heap.size + 1 + 1, 0, none⟩ = false); have Z1 := Lib.hid z1; have Z4 := Lib.hid z4; have Z6 := Lib.hid z6; clear hZ z1 z2 z3 z4 z5 z6 z7)
      have k1 : KeepsOthers W2 (Z.setCell ⟨w.heap.size + 1 + 1, 0, none⟩ (.int .i64 4)) := ((Y5.out.trans (KeepsOthers.of_below' (YQ.out.below _))).trans Z4.out).trans (KeepsOthers.setCell _ _ _)
      have k2 : Below (w.heap.size + 1) W2 (Z.setCell ⟨w.heap.size + 1 + 1, 0, none⟩ (.int .i64 4)) := (Z6.out _ _ (by omega) (Y6.out.trans (YQ.out.below _))).setCell (p := ⟨w.heap.size + 1 + 1, 0, none⟩) (by simp) _
      exact ⟨k1, ⟨rfl, Z1.out.far _ _ (by omega), World.cell?_setCell_same' _ _ _ (by rw [z2']; rfl), x.1, by rw [nos_snoc]; simp, by rw [← HR.out, finO_num]; exact HF.out⟩, HB2.out.trans k2⟩
    · have HF := Lib.hid hf
      gi_wp2_with (refine ⟨trivial, ?_⟩; gi_at_call 60; refine CallsIn.inRound l ((callsIn_wide (n := 3)).2 ((isFinite_is r _ HF.out Y).mono ?_)); rintro e Y' ⟨rfl, hq⟩; have YQ := Lib.hid hq; clear hq)
      have k2 : Below (w.heap.size + 1) W2 Y' := Y6.out.trans (YQ.out.below _)
      refine ⟨Y5.out.trans (KeepsOthers.of_below' (YQ.out.below _)), k2, ⟨?_, Y2.out.quiet YQ.out, kq Y3.out _ YQ.out, (by obtain ⟨n, rfl⟩ := YQ.out; exact Y4.out), ?_⟩, HB2.out.trans k2⟩
      · rw [nos_snoc]
        exact (RowAt.congr Y1.out (fillF_put (balF G) (nos pre) x.1 r (balF_is HI.out HR.out HF.out))).quiet YQ.out
      · intro i hi
        rw [nos_snoc] at hi
        rcases List.mem_append.1 hi with h | h
        · exact A5.out i h
        · simp only [List.mem_singleton] at h
          subst h
          rw [← HR.out, finO_num]
          exact HF.out
  case done =>
    rintro D W2 hD ⟨a1, a2, a3, a4, a5⟩ hB2 hK
    have R := Lib.hid (allFin_yes a5)
    have rr := (RowAt.congr a1 (fillF_bal G)).range
    have t2 := a2.there
    have hND : D ≠ w.heap.size + 1 := by omega
    have hCD : D ≠ w.heap.size + 1 + 1 := by omega
    have hwD : w.heap.size ≤ D := by omega
    obtain ⟨Z, hZ, z1, z2, z3, z4, z5, z6, z7⟩ := stored_row (g := balF G) a2 (c := w.heap.size + 1 + 1) (by omega)
    have z2' := z2 _ a3
    have z3' := z3.trans a4
    have HZ := Lib.hid hZ
    have Z1 := Lib.hid (z1.far (b' := w.heap.size + 1 + 1) 0 (.int .i64 0) (by omega))
    have Z6 := Lib.hid ((z6 w.heap.size w (by omega) (BU.out.trans (hB2.mono (by omega)))).setCell (p := ⟨w.heap.size + 1 + 1, 0, none⟩) (by simp; omega) (.int .i64 0))
    have Z7 := Lib.hid ((Below.heap_setCell Z ⟨w.heap.size + 1 + 1, 0, none⟩ (.int .i64 0) D (by simpa using hCD)).trans (z7 D _ hND hK))
    have Z8 := Lib.hid (World.cell?_setCell_same' Z ⟨w.heap.size + 1 + 1, 0, none⟩ (.int .i64 0) (by rw [z2']; rfl))
    clear hZ z1 z2 z3 z4 z5 z6 z7 a1 a2 a3 a4 a5 u2 u3 u4 u5 cM TU hB2 hK hD hl0 hl hl2 zV
    go_wp2_with (first | (refine wpList_load_mid rfl 30 _ rfl N 0 rfl (Fld (balF G)).toList _ rr Tryd.underlying30 rfl (by rw [Fld_length]; exact infoField) ?_) | (refine wpList_store_mid rfl 30 _ _ rfl _ 0 (Fld (balF G)) rfl rfl (by rw [Fld_size]; with_reducible exact t2) (by rw [Fld_size]; exact infoField) (Fld_one _) ?_); rw [HZ.out])
    exact ret_marks Z7.out (fun W' h => results_fld_int rfl _ _ _ _ _ _ rfl rfl (h.row Z1.out).range (h.cell Z8.out) Tryd.underlying30 rfl Tryd.underlying2 rfl infoField) (fun W' _ hb => ⟨congrArg Ending.returned (show FN (balF G) 0 = EV by rw [← HE.out, R.out]; rfl), Z6.out.trans (hb _ hwD)⟩)
  case stop =>
    rintro D c pre W2 hD hp ⟨rfl, a2, a3, i, hi, hf⟩ hB2 hK
    have R := Lib.hid (show allFin G = false from by
      have hm := mem_bitsL.1 (hp.subset hi)
      have hb : isB G i = true := by have := hm.2; rw [cellsN_testBit] at this; simp at this; exact this.2
      exact all_no i hm.1 (by simp [hb, hf]))
    gi_wp2
    exact ret_marks hK (fun W' h => results_fld_int rfl _ _ _ _ _ _ rfl rfl (h.row a2).range (h.cell a3) Tryd.underlying30 rfl Tryd.underlying2 rfl infoField) (fun W' _ hb => ⟨congrArg Ending.returned (show FN zf 4 = EV by rw [← HE.out, R.out]; rfl), (BU.out.trans (hB2.mono (by omega))).trans (hb _ (by omega))⟩)

theorem implBalances_any (G : Gd) (w : World) (hG : GdOk G) (hT : TabAt w) :
    Calls Tryd.prog 22 #[.agg (Grd G)] w fun e w' => e = .returned (balsV G) ∧ Below w.heap.size w w' := by
  cases hv : validB G
  · rw [show balsV G = FN zf 1 by simp [balsV, hv]]
    exact implBalances_bad G w hG hT hv
  · rw [show balsV G = if allFin G = true then FN (balF G) 0 else FN zf 4 by simp [balsV, hv]]
    exact implBalances_good G w hG hT hv
end Go.Proofs.YtcfkkceidlpdkaaDoor
