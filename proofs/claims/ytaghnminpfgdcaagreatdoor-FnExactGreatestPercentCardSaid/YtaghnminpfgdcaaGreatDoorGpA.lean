/- GreatestPercent, the model's. No condition. · GreatestPercent, the program's. Condition: the table of math/bits is laid. -/
import Derived.Test.YtaghnminpfgdcaaGreatDoorKeA
import Derived.Test.YtaghnminpfgdcaaGreatDoorSc
namespace Go.Proofs.YtaghnminpfgdcaaGreatDoor

section
open Go Go.RowKit
set_option linter.unusedSimpArgs false
set_option linter.unusedVariables false
attribute [local go_sem] Oper.semAt_some

/-- A list with a percentage of its rates. -/
def scF (L : List P3) (y : Nat) : List P3 := scTo L (y : Int) L.length
/-- The greatest percentage under m that is kept, and the code. -/
def gpN (G : Gd) (Lw : List T2) (L : List P3) : Nat → Int × Int
  | 0 => (0, 6)
  | m + 1 => if keptB G Lw (scF L m) = true then ((m : Int), 0) else gpN G Lw L m
def gpV (G : Gd) (Lw : List T2) (L : List P3) : Int × Int := if prmB G Lw L = true then gpN G Lw L 101 else (0, 1)
theorem scF_len (L : List P3) (y : Nat) : (scF L y).length = L.length := scTo_len _ _ _
theorem scF_eq (L : List P3) (y : Nat) : scF L y = L.map (scE (y : Int)) := by simp [scF, scTo]
theorem scF_pm {G : Gd} {L : List P3} (h : ∀ e ∈ L, pmB G e = true) (y : Nat) (hy : y ≤ 100) : ∀ e ∈ scF L y, pmB G e = true := by
  intro e he
  rw [scF_eq] at he
  obtain ⟨x, hx, rfl⟩ := List.mem_map.1 he
  have h1 := h x hx
  simp only [pmB, Bool.and_eq_true] at h1 ⊢
  refine ⟨h1.1, h1.2.1, ?_⟩
  have h2 := h1.2.2
  simp only [rateB, Bool.and_eq_true, decide_eq_true_eq] at h2 ⊢
  exact sc_div (sc_in (r := x.2.2) (y := (y : Int)) h2 (by omega))
theorem scl_spec (pp c : Nat) (L : List P3) (y : Nat) (hy : y ≤ 100) (h6 : L.length ≤ 6) (hr : ∀ e ∈ L, 0 ≤ e.2.2 ∧ e.2.2 ≤ 400) (w : World) (hp : PsAt w (some ⟨pp, 0, none⟩) L) :
    Calls Tryz.prog 76 #[.slice (some ⟨pp, 0, none⟩) L.length c, .int .i64 (y : Int)] w fun e w' => ∃ b cap, e = .returned (.slice (some ⟨b, 0, none⟩) L.length cap) ∧ PsAt w' (some ⟨b, 0, none⟩) (scF L y) ∧ Below w.heap.size w w' := by
  by_cases h0 : 0 < L.length
  · exact (l07Scaled_any ⟨pp, 0, none⟩ c L (y : Int) (by omega) h0 h6 hr w hp).mono fun e w' ⟨b, cap, h1, _, _, h2, _, h3⟩ => ⟨b, cap, h1, h2, h3⟩
  · have hn : L = [] := List.length_eq_zero_iff.1 (by omega)
    subst hn
    exact (l07Scaled_nil pp 0 c (y : Int) w).mono fun e w' ⟨b, cap, h1, h3⟩ => ⟨b, cap, h1, fun k e he => by simp [scF, scTo] at he, h3⟩
theorem pm_rates {G : Gd} {L : List P3} (h : ∀ e ∈ L, pmB G e = true) : ∀ e ∈ L, 0 ≤ e.2.2 ∧ e.2.2 ≤ 400 := fun e he => by
  have h1 := h e he
  simp only [pmB, rateB, Bool.and_eq_true, decide_eq_true_eq] at h1
  exact h1.2.2
set_option maxRecDepth 100000 in
set_option maxHeartbeats 2000000 in
theorem specGP_any (G : Gd) (pw : Option Addr) (cw : Nat) (Lw : List T2) (hLw : Lw.length ≤ 1048576) (hOw : ∀ e ∈ Lw, okT2 e) (pp : Nat) (c : Nat) (L : List P3) (hL : L.length ≤ 1048576) (hO : ∀ e ∈ L, okPQ e) (w : World) (hpw : TsAt w pw Lw) (hp : PsAt w (some ⟨pp, 0, none⟩) L) (hG : GdOk G) :
    Calls Tryz.prog 45 #[.agg (OfA ⟨G, pw, Lw.length, cw⟩), .slice (some ⟨pp, 0, none⟩) L.length c] w fun e w' => e = .returned (.tuple #[.int .i64 (gpV G Lw L).1, .int .i64 (gpV G Lw L).2]) ∧ Below w.heap.size w w' := by
  obtain ⟨W, hW, hs, b1, hB⟩ := obox1 ⟨G, pw, Lw.length, cw⟩ 41 w
  have T := l07Fits_any G pw cw Lw hLw hOw (some ⟨pp, 0, none⟩) c L hL hO w.heap.size W b1.at' (by omega) (hpw.keep hB) (hp.keep hB) hG
  have HB := Lib.hid hB
  cases hpr : prmB G Lw L
  · rw [hpr] at T
    have T := Lib.hid T
    have HR := Lib.hid (show gpV G Lw L = (0, 1) by simp [gpV, hpr])
    obtain ⟨A, hA⟩ : ∃ A, OfA ⟨G, pw, Lw.length, cw⟩ = A := ⟨_, rfl⟩
    rw [hA] at hW ⊢
    obtain ⟨n, hn⟩ : ∃ n, L.length = n := ⟨_, rfl⟩
    rw [hn] at T ⊢
    clear b1 hs hp hB hA hn hpw hOw hO hpr
    go_enter Tryz.func45, Tryz.ntmps45
    go_upto_region 1 with (fail)
    try rw [hW]
    clear hW
    go_wp2_with (go_at_call 48; refine T.out.mono ?_; rintro e V ⟨rfl, hV⟩; have HV := Lib.hid (HB.out.trans (hV.mono HB.out.size)); clear hV)
    go_ret2
    exact ⟨by rw [HR.out]; rfl, HV.out⟩
  · obtain ⟨hv, hL6, hpm, hm6, hwt⟩ := prm_is hpr
    rw [hpr] at T
    have T := Lib.hid T
    have B1 := Lib.hid b1
    have PW := Lib.hid (hpw.keep hB)
    have PP := Lib.hid (hp.keep hB)
    have hl : w.heap.size < W.heap.size := by omega
    have TS := Lib.hid (fun (y : Nat) (hy : y ≤ 100) V (h : Below W.heap.size W V) => scl_spec pp c L y hy hL6 (pm_rates hpm) V (PP.out.keep h))
    have TK := Lib.hid (fun (y : Nat) (hy : y ≤ 100) (b cap : Nat) V (h : Below W.heap.size W V) (h2 : PsAt V (some ⟨b, 0, none⟩) (scF L y)) => l07Kept_any G pw cw Lw (by omega) (wt_cells hwt) (some ⟨b, 0, none⟩) cap (scF L y) (by rw [scF_len]; exact hL6) (scF_pm hpm y hy) hv hG w.heap.size V (B1.out.below h hl) (PW.out.keep h) h2)
    simp only [scF_len] at TK
    have HR := Lib.hid (show gpV G Lw L = gpN G Lw L 101 by simp [gpV, hpr])
    obtain ⟨A, hA⟩ : ∃ A, OfA ⟨G, pw, Lw.length, cw⟩ = A := ⟨_, rfl⟩
    rw [hA] at hW ⊢
    obtain ⟨n, hn⟩ : ∃ n, L.length = n := ⟨_, rfl⟩
    rw [hn] at T TK TS ⊢
    clear b1 hs hp hB hA hn hpw hOw hO hpr hv hL6 hpm hm6 hwt hL hLw hG
    go_enter Tryz.func45, Tryz.ntmps45
    go_upto_region 1 with (fail)
    try rw [hW]
    clear hW
    go_upto_region 4 with (go_at_call 48; refine T.out.mono ?_; rintro e V ⟨rfl, hV⟩; have HV := Lib.hid hV; clear hV)
    go_loopw [6] (fun i wr => ∃ m : Nat, m ≤ 101 ∧ i = .int .i64 ((m : Int) - 1) ∧ Hid (gpN G Lw L m = gpN G Lw L 101) ∧ Hid (Below W.heap.size W wr)) (fun i _ => (intOf i + 1).toNat)
    case atStart => exact ⟨101, by omega, rfl, Lib.hid rfl, HV⟩
    case round =>
      obtain ⟨m, hm, rfl, hg, hb⟩ := hrel
      rcases m with _ | m
      · have HE := Lib.hid (HB.out.trans (hb.out.mono HB.out.size))
        go_wp2
        go_ret2
        exact ⟨by rw [HR.out, ← hg.out]; rfl, HE.out⟩
      · have e1 : ((m + 1 : Nat) : Int) - 1 = (m : Int) := by omega
        simp only [e1]
        have hm0 : (0 : Int) ≤ m := by omega
        have TS1 := Lib.hid (TS.out m (by omega) wr hb.out)
        have TK1 := Lib.hid (TK.out m (by omega))
        have HG := Lib.hid hg.out
        obtain ⟨kb, hkb⟩ : ∃ kb, keptB G Lw (scF L m) = kb := ⟨_, rfl⟩
        rw [hkb] at TK1
        have HN := Lib.hid (show gpN G Lw L (m + 1) = if kb = true then ((m : Int), 0) else gpN G Lw L m by rw [← hkb]; rfl)
        clear hkb
        cases kb
        · go_wp2_with (first | (go_at_call 76; refine TS1.out.mono ?_; rintro e V1 ⟨b, cap, rfl, hps, hV⟩; have HV1 := Lib.hid (hb.out.trans (hV.mono hb.out.size)); have HPS := Lib.hid hps; clear hV hps) | (go_at_call 63; refine (TK1.out b cap V1 HV1.out HPS.out).mono ?_; rintro e V2 ⟨rfl, hV⟩; have HV2 := Lib.hid (HV1.out.trans (hV.mono HV1.out.size)); clear hV))
          go_roundw
          case rel => exact ⟨m, by omega, by first | rfl | go_num, Lib.hid (by rw [← hg.out, HN.out]; try rfl), HV2⟩
          case measure => simp [intOf]
        · go_wp2_with (first | (go_at_call 76; refine TS1.out.mono ?_; rintro e V1 ⟨b, cap, rfl, hps, hV⟩; have HV1 := Lib.hid (hb.out.trans (hV.mono hb.out.size)); have HPS := Lib.hid hps; clear hV hps) | (go_at_call 63; refine (TK1.out b cap V1 HV1.out HPS.out).mono ?_; rintro e V2 ⟨rfl, hV⟩; have HV2 := Lib.hid (HV1.out.trans (hV.mono HV1.out.size)); clear hV))
          go_ret2
          exact ⟨by rw [HR.out, ← hg.out, HN.out]; rfl, HB.out.trans (HV2.out.mono HB.out.size)⟩
theorem mtS_at (M : List P3) (k : Nat) : ∀ j, j < k → mtS (iotaI k) M k j = (M.getD j (0, 0, 0)).2.2 := by
  have key : ∀ (N k : Nat), k ≤ N → ∀ j, j < k → mtS (iotaI N) M k j = (M.getD j (0, 0, 0)).2.2 := by
    intro N k
    induction k with
    | zero => intro _ j hj; omega
    | succ k ih =>
      intro hk j hj
      have hi : (iotaI N).getD k 0 = (k : Int) := by
        simp only [iotaI, List.getD, List.getElem?_map]
        rw [List.getElem?_range (by omega)]; rfl
      simp only [mtS, hi, Int.toNat_natCast]
      by_cases e : j = k
      · rw [if_pos e, e]
      · rw [if_neg e]; exact ih (by omega) j (by omega)
  exact key k k (Nat.le_refl _)
/-- A list with the rates of a meter. -/
def rateAt (A : Array Value) (j : Nat) : Int := match A[j]? with | some (.int _ x) => x | _ => 0
def reL : List P3 → Nat → Array Value → List P3
  | [], _, _ => []
  | e :: r, j, A => (e.1, e.2.1, rateAt A j) :: reL r (j + 1) A
theorem reL_scF {y : Nat} {A : Array Value} : ∀ (L : List P3) (j : Nat), (∀ (k : Nat) (e : P3), L[k]? = some e → rateAt A (j + k) = (scE (y : Int) e).2.2) → reL L j A = scF L y
  | [], j, _ => rfl
  | e :: r, j, h => by
    rw [scF_eq, List.map_cons, ← scF_eq]
    simp only [reL]
    rw [reL_scF r (j + 1) (fun k e' he => by rw [show j + 1 + k = j + (k + 1) by omega]; exact h (k + 1) e' (by simpa using he))]
    have h0 := h 0 e rfl
    rw [Nat.add_zero] at h0
    rw [h0]; rfl
theorem rateAt_m6 (f : Nat → Int) (j : Nat) (hj : j < 6) : rateAt (M6 f) j = f j := by
  simp [rateAt, M6_at f j hj]
theorem reL_met (L : List P3) (y : Nat) (h6 : L.length ≤ 6) : reL L 0 (M6 (mtS (iotaI L.length) (scF L y) L.length)) = scF L y := by
  refine reL_scF L 0 fun k e he => ?_
  have hk : k < L.length := (List.getElem?_eq_some_iff.1 he).1
  rw [Nat.zero_add, rateAt_m6 _ k (by omega), mtS_at _ _ k hk, scF_eq]
  simp [List.getD, he]
end

section
open Go Go.RowKit
set_option linter.unusedSimpArgs false
set_option linter.unusedVariables false
attribute [local go_sem] Oper.semAt_some

theorem scl_impl (pp c : Nat) (L : List P3) (y : Nat) (hy : y ≤ 100) (h6 : L.length ≤ 6) (hr : ∀ e ∈ L, 0 ≤ e.2.2 ∧ e.2.2 ≤ 400) (w : World) (hp : PsAt w (some ⟨pp, 0, none⟩) L) :
    Calls Tryz.prog 78 #[.slice (some ⟨pp, 0, none⟩) L.length c, .int .i64 (y : Int)] w fun e w' => ∃ b cap, e = .returned (.slice (some ⟨b, 0, none⟩) L.length cap) ∧ PsAt w' (some ⟨b, 0, none⟩) (scF L y) ∧ Below w.heap.size w w' := by
  by_cases h0 : 0 < L.length
  · exact (scaledBy_any ⟨pp, 0, none⟩ c L (y : Int) (by omega) h0 h6 hr w hp).mono fun e w' ⟨b, cap, h1, _, _, h2, _, h3⟩ => ⟨b, cap, h1, h2, h3⟩
  · have hn : L = [] := List.length_eq_zero_iff.1 (by omega)
    subst hn
    exact (scaledBy_nil pp 0 c (y : Int) w).mono fun e w' ⟨b, cap, h1, h3⟩ => ⟨b, cap, h1, fun k e he => by simp [scF, scTo] at he, h3⟩
theorem scF_prm {G : Gd} {Lw : List T2} {L : List P3} (h : prmB G Lw L = true) (y : Nat) (hy : y ≤ 100) : prmB G Lw (scF L y) = true := by
  obtain ⟨_, hL6, hpm, _, _⟩ := prm_is h
  have h2 := scF_pm hpm y hy
  unfold prmB at h ⊢
  simp only [Bool.and_eq_true, scF_len] at h ⊢
  exact ⟨h.1, h.2.1, List.all_eq_true.2 h2⟩
theorem scF_ok {L : List P3} (h : ∀ e ∈ L, okPQ e) (hr : ∀ e ∈ L, 0 ≤ e.2.2 ∧ e.2.2 ≤ 400) (y : Nat) (hy : y ≤ 100) : ∀ e ∈ scF L y, okPQ e := by
  intro e he
  rw [scF_eq] at he
  obtain ⟨x, hx, rfl⟩ := List.mem_map.1 he
  have h1 := h x hx
  have h2 := sc_div (sc_in (r := x.2.2) (y := (y : Int)) (hr x hx) (by omega))
  unfold okPQ at h1 ⊢
  refine ⟨h1.1, h1.2.1, ?_⟩
  simp only [scE]
  omega
theorem iota_in {n : Nat} (hn : n ≤ 6) : ∀ i ∈ iotaI n, ∃ q : Nat, i = (q : Int) ∧ q < 6 := fun i hi => by
  simp only [iotaI, List.mem_map, List.mem_range] at hi
  obtain ⟨q, hq, rfl⟩ := hi
  exact ⟨q, rfl, by omega⟩
theorem cell_eqB {w w' : World} {b : Nat} (h : w'.heap[b]? = w.heap[b]?) (o : Nat) : w'.cell? ⟨b, o, none⟩ = w.cell? ⟨b, o, none⟩ := by
  simp only [World.cell?, h]
theorem range_eqB {w w' : World} {b : Nat} {cs : List Value} (h : w'.heap[b]? = w.heap[b]?) (hr : w.rangeAt b 0 cs) : w'.rangeAt b 0 cs := fun j v hj => (cell_eqB h _).trans (hr j v hj)
theorem ck_box (bo bm : Nat) (w : World) : ∃ W, w.alloc (.cells (Ckv bo bm) 111) = W ∧ W.heap.size = w.heap.size + 1 ∧ W.rangeAt w.heap.size 0 (Ckv bo bm).toList ∧ Below w.heap.size w W :=
  ⟨_, rfl, by simp, rangeAt_row (heap_alloc_last w _), (Below.refl _ _).alloc (Nat.le_refl _) _⟩
set_option maxRecDepth 100000 in
set_option maxHeartbeats 2000000 in
theorem implGP_any (G : Gd) (pw : Option Addr) (cw : Nat) (Lw : List T2) (hLw : Lw.length ≤ 1048576) (hOw : ∀ e ∈ Lw, okT2 e) (pp : Nat) (c : Nat) (L : List P3) (hL : L.length ≤ 1048576) (hO : ∀ e ∈ L, okPQ e) (w : World) (hpw : TsAt w pw Lw) (hp : PsAt w (some ⟨pp, 0, none⟩) L) (hG : GdOk G) (hT : TabAt w) :
    Calls Tryz.prog 46 #[.agg (OfA ⟨G, pw, Lw.length, cw⟩), .slice (some ⟨pp, 0, none⟩) L.length c] w fun e w' => e = .returned (.tuple #[.int .i64 (gpV G Lw L).1, .int .i64 (gpV G Lw L).2]) ∧ Below w.heap.size w w' := by
  obtain ⟨W, hW, hs, b1, hB⟩ := obox1 ⟨G, pw, Lw.length, cw⟩ 41 w
  have T := implValidPermits_any G pw cw Lw hLw hOw (some ⟨pp, 0, none⟩) c L hL hO W (hpw.keep hB) (hp.keep hB) hG (hT.below hB (tab_lt hT))
  have HB := Lib.hid hB
  have r1 := b1.range
  cases hpr : prmB G Lw L
  · rw [hpr] at T
    have T := Lib.hid T
    have HR := Lib.hid (show gpV G Lw L = (0, 1) by simp [gpV, hpr])
    obtain ⟨m, hm⟩ : ∃ m, Lw.length = m := ⟨_, rfl⟩
    rw [hm] at hW r1 T ⊢
    obtain ⟨n, hn⟩ : ∃ n, L.length = n := ⟨_, rfl⟩
    rw [hn] at T ⊢
    clear b1 hs hp hB hm hn hpw hOw hO hpr
    go_enter Tryz.func46, Tryz.ntmps46
    go_upto_region 1 with (fail)
    try rw [hW]
    clear hW
    go_wp2_with (first | (refine ld_stage 41 rfl ?_; refine wpList_load_mid rfl 41 _ rfl (w.heap.size) 0 rfl (OfL ⟨G, pw, m, cw⟩) _ r1 Tryz.underlying41 rfl (by rw [OfL_length]; exact infoOffice) ?_) | (go_at_call 64; refine T.out.mono ?_; rintro e V ⟨rfl, hV⟩; have HV := Lib.hid (HB.out.trans (hV.mono HB.out.size)); clear hV))
    go_ret2
    exact ⟨by rw [HR.out]; rfl, HV.out⟩
  · obtain ⟨hv, hL6, hpm, hm6, hwt⟩ := prm_is hpr
    rw [hpr] at T
    have T := Lib.hid T
    have B1 := Lib.hid b1
    have PW := Lib.hid (hpw.keep hB)
    have PP := Lib.hid (hp.keep hB)
    have HT := Lib.hid (hT.below hB (tab_lt hT))
    have hl : w.heap.size < W.heap.size := by omega
    obtain ⟨Kf, hKf⟩ : ∃ Kf : Array Value → Bool, ∀ y : Nat, Kf (M6 (mtS (iotaI L.length) (scF L y) L.length)) = keptB G Lw (scF L y) := ⟨fun A => keptB G Lw (reL L 0 A), fun y => by show keptB G Lw (reL L 0 _) = _; rw [reL_met L y hL6]⟩
    have TS := Lib.hid (fun (y : Nat) (hy : y ≤ 100) V (h : Below W.heap.size W V) => scl_impl pp c L y hy hL6 (pm_rates hpm) V (PP.out.keep h))
    have TC := Lib.hid (fun (y b cap : Nat) V (h : PsAt V (some ⟨b, 0, none⟩) (scF L y)) => choiceOfAll_any (some ⟨b, 0, none⟩) cap (scF L y) (by rw [scF_len]; omega) V h)
    have TK := Lib.hid (fun (bm : Nat) (p1 : Option Addr) (c1 : Nat) (p2 : Option Addr) (c2 y : Nat) (hy : y ≤ 100) (es : Array MapEntry) (clock : Nat) V (h : Below W.heap.size W V) (hc : ChAt V p1 p2 (iotaI L.length) (scF L y)) (hm : V.heap[bm]? = some (.map es clock)) (hM : MapK Kf es.toList) => keeps_any G pw cw Lw hLw hOw w.heap.size bm p1 c1 p2 c2 L.length (iotaI L.length) (scF L y) (iotaI_len _) (scF_len _ _) hL6 (iota_in hL6) (scF_ok hO (pm_rates hpm) y hy) (scF_prm hpr y hy) Kf (hKf y) es clock V (B1.out.below h hl) (PW.out.keep h) hG (HT.out.below h (tab_lt HT.out)) hc hm hM)
    simp only [scF_len] at TC
    have HR := Lib.hid (show gpV G Lw L = gpN G Lw L 101 by simp [gpV, hpr])
    obtain ⟨m, hm⟩ : ∃ m, Lw.length = m := ⟨_, rfl⟩
    rw [hm] at hW r1 T ⊢
    obtain ⟨n, hn⟩ : ∃ n, L.length = n := ⟨_, rfl⟩
    rw [hn] at T TK TS TC ⊢
    clear b1 hs hp hB hm hn hpw hOw hO hpr hv hL6 hpm hm6 hwt hL hLw hG hT hKf
    go_enter Tryz.func46, Tryz.ntmps46
    go_upto_region 1 with (fail)
    try rw [hW]
    clear hW
    go_upto_region 5 with (first | (refine ld_stage 41 rfl ?_; refine wpList_load_mid rfl 41 _ rfl (w.heap.size) 0 rfl (OfL ⟨G, pw, m, cw⟩) _ r1 Tryz.underlying41 rfl (by rw [OfL_length]; exact infoOffice) ?_) | (go_at_call 64; refine T.out.mono ?_; rintro e V ⟨rfl, hV⟩; have HV := Lib.hid hV; clear hV) | (go_at_call 66; refine (clerkOf_any w.heap.size _).mono ?_; rintro e V2 ⟨bm, rfl, hbm, hm2, hV2⟩; simp only [Ckv]))
    obtain ⟨X, hX, zX, rX, bX⟩ := ck_box w.heap.size bm V2
    simp only [Ckv] at hX rX
    rw [hX]
    have hWX : Below W.heap.size W X := HV.out.trans ((hV2.trans (bX.mono hV2.size)).mono HV.out.size)
    have HX := Lib.hid hWX
    have hmX : X.heap[bm]? = some (.map #[] 0) := (bX.block bm (Array.getElem?_eq_some_iff.1 hm2).1).trans hm2
    have HMX := Lib.hid (show ∃ es clock, X.heap[bm]? = some (.map es clock) ∧ MapK Kf es.toList from ⟨#[], 0, hmX, fun e he => by simp at he⟩)
    have hlm : bm < V2.heap.size := (Array.getElem?_eq_some_iff.1 hm2).1
    have hWb : W.heap.size ≤ bm := Nat.le_trans HV.out.size hbm
    obtain ⟨b6, hb6⟩ : ∃ b6, V2.heap.size = b6 := ⟨_, rfl⟩
    rw [hb6] at rX zX hlm
    have RX := Lib.hid (show X.rangeAt b6 0 (Ckv w.heap.size bm).toList ∧ b6 < X.heap.size from ⟨rX, by omega⟩)
    try simp only [hb6]
    have HWb := Lib.hid hWb
    have hne : b6 ≠ bm := by omega
    have HNE := Lib.hid hne
    clear hX zX rX bX hV2 hm2 hWX hmX hb6 hbm hWb hlm hne T HV HT PW PP B1
    go_loopw [7] (fun i wr => ∃ m : Nat, m ≤ 101 ∧ i = .int .i64 ((m : Int) - 1) ∧ Hid (gpN G Lw L m = gpN G Lw L 101) ∧ Hid (∃ es clock, wr.heap[bm]? = some (.map es clock) ∧ MapK Kf es.toList) ∧ Hid (wr.rangeAt b6 0 (Ckv w.heap.size bm).toList ∧ b6 < wr.heap.size) ∧ Hid (Below W.heap.size W wr)) (fun i _ => (intOf i + 1).toNat)
    case atStart => exact ⟨101, by omega, rfl, Lib.hid rfl, HMX, RX, HX⟩
    case round =>
      obtain ⟨m, hm, rfl, hg, hmap, hrx, hb⟩ := hrel
      rcases m with _ | m
      · have HE := Lib.hid (HB.out.trans (hb.out.mono HB.out.size))
        go_wp2
        go_ret2
        exact ⟨by rw [HR.out, ← hg.out]; rfl, HE.out⟩
      · have e1 : ((m + 1 : Nat) : Int) - 1 = (m : Int) := by omega
        simp only [e1]
        have hm0 : (0 : Int) ≤ m := by omega
        obtain ⟨es, clock, hmm, hMM⟩ := hmap.out
        have HMM := Lib.hid hMM
        have HM0 := Lib.hid hmm
        have HG := Lib.hid hg.out
        have TS1 := Lib.hid (TS.out m (by omega))
        have TC1 := Lib.hid (TC.out m)
        have TK1 := Lib.hid (fun p1 c1 p2 c2 => TK.out bm p1 c1 p2 c2 m (by omega) es clock)
        obtain ⟨kb, hkb⟩ : ∃ kb, keptB G Lw (scF L m) = kb := ⟨_, rfl⟩
        rw [hkb] at TK1
        have HN := Lib.hid (show gpN G Lw L (m + 1) = if kb = true then ((m : Int), 0) else gpN G Lw L m by rw [← hkb]; rfl)
        clear hkb hmm hMM hmap hg
        go_upto_region 7 with (fail)
        have hS0 : wr.drew.rangeAt b6 0 (Ckv w.heap.size bm).toList ∧ b6 < wr.drew.heap.size := ⟨hrx.out.1, hrx.out.2⟩
        have hD : Below wr.heap.size wr wr.drew := (Below.refl _ _).drew
        have hSS : ∀ Y Z, (Y.rangeAt b6 0 (Ckv w.heap.size bm).toList ∧ b6 < Y.heap.size) → Below Y.heap.size Y Z → (Z.rangeAt b6 0 (Ckv w.heap.size bm).toList ∧ b6 < Z.heap.size) := fun Y Z h hb => ⟨range_kept h.1 h.2 _ hb, Nat.lt_of_lt_of_le h.2 hb.size⟩
        refine wp_region_plan (ops' := regOf Tryz.f46 7) (.take 0 (.take 1 (.take 2 (.run 3 (.run 4 (.run 5 .fin)))))) (fun Z => Z.rangeAt b6 0 (Ckv w.heap.size bm).toList ∧ b6 < Z.heap.size) (by kernel_rfl) (by kernel_rfl) (by kernel_rfl) (by kernel_rfl) (by kernel_rfl) hS0 ?_
        refine plan_load (some 17) 111 (.tmp 6) b6 0 _ _ (by kernel_rfl) (by kernel_rfl) (by kernel_rfl) (by kernel_rfl) (by kernel_rfl) (fun w' hw' => hw'.1) Tryz.underlying111 rfl (by kernel_rfl) ?_
        refine plan_pure (some 18) (.slice (some ⟨pp, 0, none⟩) n c) (by kernel_rfl) (by kernel_rfl) (by kernel_rfl) (fun _ => (by kernel_rfl)) ?_
        refine plan_pure (some 19) (.int .i64 (m : Int)) (by kernel_rfl) (by kernel_rfl) (by kernel_rfl) (fun _ => (by kernel_rfl)) ?_
        refine plan_call (some 20) 78 #[.slice (some ⟨pp, 0, none⟩) n c, .int .i64 (m : Int)] (by kernel_rfl) (by kernel_rfl) (by kernel_rfl) (by kernel_rfl) (Calls.mono (TS1.out _ (hb.out.trans (hD.mono hb.out.size))) ?_)
        rintro _ Z1 ⟨b, cap, rfl, hps, h1⟩
        have c1 := hSS _ _ hS0 h1
        refine ⟨_, rfl, c1, ?_⟩
        refine plan_call (some 21) 77 #[.slice (some ⟨b, 0, none⟩) n cap] (by kernel_rfl) (by kernel_rfl) (by kernel_rfl) (by kernel_rfl) (Calls.mono (TC1.out b cap Z1 hps) ?_)
        rintro _ Z2 ⟨q1, d1, q2, d2, rfl, hd1, hd2, hch, h2⟩
        have c2 := hSS _ _ c1 h2
        have h02 : Below wr.heap.size wr Z2 := (hD.trans (h1.mono hD.size)).trans (h2.mono (hD.trans (h1.mono hD.size)).size)
        have hb2 := hb.out.trans (h02.mono hb.out.size)
        refine ⟨_, rfl, c2, ?_⟩
        refine plan_call (some 22) 68 #[.agg (Ckv w.heap.size bm), .agg (Chv q1 d1 q2 d2 n)] (by kernel_rfl) (by kernel_rfl) (by kernel_rfl) (by kernel_rfl) (Calls.mono (TK1.out q1 d1 q2 d2 Z2 hb2 hch ((h02.block bm (Array.getElem?_eq_some_iff.1 HM0.out).1).trans HM0.out) HMM.out) ?_)
        rintro _ Z3 ⟨rfl, hmap3, hb3, hs3, hx3⟩
        have c3 : Z3.rangeAt b6 0 (Ckv w.heap.size bm).toList ∧ b6 < Z3.heap.size := ⟨range_eqB (hx3 b6 HNE.out c2.2) c2.1, Nat.lt_of_lt_of_le c2.2 hs3⟩
        refine ⟨_, rfl, c3, ?_⟩
        refine plan_end (NoPanic.normal ?_)
        simp only [Act.put, List.setIfInBounds_toArray, List.set_cons_zero, List.set_cons_succ]
        have HM3 := Lib.hid hmap3
        have C3 := Lib.hid c3
        have HB3 := Lib.hid (hb2.trans (hb3.mono HWb.out))
        clear hmap3 c3 hb3 hs3 hx3 c2 c1 h02 hb2 hch h1 h2 hps hS0 hSS hD
        cases kb
        · go_wp2
          go_roundw
          case rel => exact ⟨m, by omega, by first | rfl | go_num, Lib.hid (by rw [← HG.out, HN.out]; try rfl), HM3, C3, HB3⟩
          case measure => simp [intOf]
        · go_wp2
          go_ret2
          exact ⟨by rw [HR.out, ← HG.out, HN.out]; rfl, HB.out.trans (HB3.out.mono HB.out.size)⟩
end
end Go.Proofs.YtaghnminpfgdcaaGreatDoor
