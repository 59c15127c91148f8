/- Permits' ground: what it reckons, and the model's. No condition. -/
import Derived.Test.YtaghnminpfgdcaaGreatDoorPmV
import Derived.Test.YtaghnminpfgdcaaGreatDoorSettle
import Derived.Test.YtaghnminpfgdcaaGreatDoorPump
namespace Go.Proofs.YtaghnminpfgdcaaGreatDoor
open Go Go.RowKit Go.Shelf
attribute [local go_sem] Oper.semAt_some run_store_float
set_option linter.unusedSimpArgs false
set_option linter.unusedVariables false

/-- How much water a permit of a rate takes. -/
def waterO (r : Int) : Option Nat := fop .f32 .quo (num .f32 (floatOfInt .f32 r)) (num .f32 1082130432)
def watN (r : Int) : Nat := (waterO r).getD 0
theorem water_tab : (List.range 401).all (fun n => match waterO (n : Int) with | some t => plainB t && decide (t < 4294967296) | none => false) = true := by decide +kernel
theorem water_is {r : Int} (h : rateB (0, 0, r) = true) : waterO r = some (watN r) ∧ plainB (watN r) = true ∧ watN r < 4294967296 := by
  have h1 : 0 ≤ r ∧ r ≤ 400 := by simpa [rateB] using h
  obtain ⟨n, rfl⟩ : ∃ n : Nat, r = (n : Int) := ⟨r.toNat, by omega⟩
  have h2 := List.all_eq_true.1 water_tab n (by simp; omega)
  unfold watN
  cases hw : waterO (n : Int) with
  | none => rw [hw] at h2; cases h2
  | some t =>
    rw [hw] at h2
    simp only [Bool.and_eq_true, decide_eq_true_eq] at h2
    exact ⟨rfl, h2.1, h2.2⟩
/-- A ground from which a permit takes. -/
def takeG (K : Gd) (e : P3) : Gd := pmpG K e.2.1.toNat (watN e.2.2)
/-- The settled ground with permits. -/
def gwR : List P3 → Gd → Gd × Int
  | [], K => ((settR 981467136 1000 1 K).1, (settR 981467136 1000 1 K).2.2)
  | e :: l, K => if validB (takeG K e) = true then gwR l (takeG K e) else (zG, 4)
theorem gwR_nil (K : Gd) : gwR [] K = ((settR 981467136 1000 1 K).1, (settR 981467136 1000 1 K).2.2) := rfl
theorem gwR_yes {K : Gd} {e : P3} {l : List P3} (h : validB (takeG K e) = true) : gwR (e :: l) K = gwR l (takeG K e) := by simp [gwR, h]
theorem gwR_no {K : Gd} {e : P3} {l : List P3} (h : validB (takeG K e) = false) : gwR (e :: l) K = (zG, 4) := by simp [gwR, h]
theorem drop_at {α : Type} {L : List α} {k : Nat} {e : α} (h : L[k]? = some e) : L.drop k = e :: L.drop (k + 1) := by
  obtain ⟨hl, rfl⟩ := List.getElem?_eq_some_iff.1 h
  exact List.drop_eq_getElem_cons hl
theorem settR_code (x : Nat) : ∀ (m : Nat) (n : Int) (K : Gd), (settR x m n K).2.2 = 0 ∨ (settR x m n K).1 = zG
  | 0, _, _ => .inr rfl
  | m + 1, n, K => by
    cases hs : (swF headO K).2.1
    · rw [settR_no hs]; exact .inr rfl
    · cases hl : leX (swF headO K).2.2 x
      · rw [settR_on hs hl]; exact settR_code x m _ _
      · rw [settR_end hs hl]; exact .inl rfl
theorem gwR_good : ∀ (l : List P3) (K : Gd), validB K = true → GdOk K → (∀ e ∈ l, pmB K e = true) → ((gwR l K).2 = 0 → validB (gwR l K).1 = true ∧ GdOk (gwR l K).1 ∧ (gwR l K).1.wide = K.wide ∧ (gwR l K).1.high = K.high) ∧ ((gwR l K).2 ≠ 0 → (gwR l K).1 = zG)
  | [], K, hv, hG, _ => by
    refine ⟨fun h => ?_, fun h => (settR_code _ _ _ _).resolve_left h⟩
    exact settR_good 1000 1 K hv hG h
  | e :: l, K, hv, hG, hl => by
    cases hk : validB (takeG K e)
    · rw [gwR_no hk]; exact ⟨fun h => (by cases h), fun _ => rfl⟩
    · rw [gwR_yes hk]
      have he := hl e (by simp)
      obtain ⟨xo, xc, r⟩ := e
      simp only [pmB, Bool.and_eq_true] at he
      obtain ⟨q, rfl, hq, hi⟩ := inB_cast he.2.1
      obtain ⟨h1, h2, h3⟩ := water_is (r := r) he.2.2
      obtain ⟨t, ht, hf, hp⟩ := sub_is hv hq hi h2
      have hO : GdOk (takeG K (xo, (q : Int), r)) := by
        show GdOk (pmpG K (q : Int).toNat (watN r))
        rw [Int.toNat_natCast, hp]
        exact ok_pmp hG hf
      exact gwR_good l _ hk hO (fun e he => hl e (by simp [he]))
theorem index_fld8 {op : Oper} {a : Act} {x y : Operand} {b o k : Nat} (ho : op.op = .indexAddr 34 x y) (hx : a.eval x = .pointer (some ⟨b, o, none⟩)) (hy : a.eval y = .int .i8 k) (hk : k < 64) (w : World) :
    (execOp a.eval op).run Tryz.prog w = .ok (.value (.pointer (some ⟨b, o + k, none⟩))) w := by
  unfold execOp
  simp only [ho, hx, hy]
  go_simp
  intro h
  omega

theorem plain_1024 : plainB 981467136 = true := by decide +kernel
set_option maxRecDepth 100000 in
set_option maxHeartbeats 4000000 in
theorem l07Ground_any (G : Gd) (pw : Option Addr) (nw cw : Nat) (p : Option Addr) (c : Nat) (L : List P3) (hL : L.length ≤ 6) (hpm : ∀ e ∈ L, pmB G e = true) (hv : validB G = true) (hG : GdOk G) (b0 : Nat) (w : World) (hb : OfBox w b0 ⟨G, pw, nw, cw⟩) (hp : PsAt w p L) :
    Calls Tryz.prog 49 #[.pointer (some ⟨b0, 0, none⟩), .slice p L.length c] w fun e w' => e = .returned (GN (gwR L G).1 (gwR L G).2) ∧ Below w.heap.size w w' := by
  have hz := (zero_of_info zeroGround).1
  have hbl := hb.lt
  obtain ⟨R, hR⟩ : ∃ R, gwR L G = R := ⟨_, rfl⟩
  rw [hR]
  obtain ⟨n, hn⟩ : ∃ n, L.length = n := ⟨_, rfl⟩
  have HN := Lib.hid hn
  rw [hn] at hL ⊢
  have HR := Lib.hid hR
  have HM := Lib.hid hpm
  have P0 := Lib.hid hp
  have HVV := Lib.hid (And.intro hv hG)
  have HBB := Lib.hid hb.grd
  have HS := Lib.hid (isB_ext (G := G) (H := G) (by simp [sameE]))
  clear hn hR hpm hp hv hG hb
  go_enter Tryz.func49, Tryz.ntmps49
  go_upto_region 1 with (fail)
  obtain ⟨V, hV, zV, g1, hB⟩ := gbox1 zG 36 w
  rw [hV]
  clear hV
  have gP := HBB.out.below hB hbl
  have G2 := Lib.hid g1
  have HB := Lib.hid hB
  have r1 := gP.range
  have hnt := new_thereG 36 V
  have ZV := Lib.hid zV
  clear g1 hB gP zV
  go_upto_region 2 with (first | (refine ld_stage 36 rfl ?_; refine wpList_load_mid rfl 36 _ rfl (b0) 0 rfl (GrdL (G)) _ r1 Tryz.underlying36 rfl (by rw [GrdL_length]; exact infoGround) ?_) | (refine st_stage 36 rfl ?_; refine wpList_store_mid rfl 36 _ _ rfl _ 0 (Grd (G)) rfl rfl (by rw [Grd_size]; with_reducible exact hnt) (by rw [Grd_size]; exact infoGround) (Grd_one _) ?_))
  obtain ⟨U, hU, zU, gU, bU⟩ := stored_box G 36 V
  rw [hU]
  have zV := ZV.out
  obtain ⟨B, hBB⟩ : ∃ B, V.heap.size = B := ⟨_, rfl⟩
  have P2 := Lib.hid (G2.out.below bU (by omega))
  have PB := Lib.hid (HB.out.trans (bU.mono (by omega)))
  rw [hBB] at gU zV ⊢
  have PG := Lib.hid gU
  have hwB : w.heap.size < B := by omega
  clear r1 hnt hU zU gU bU hBB zV
  go_wp2
  go_loopw [7] (fun i wr => ∃ (k : Nat) (K : Gd), k ≤ n ∧ i = .int .i64 k ∧ Hid (gwR (L.drop k) K = R) ∧ Hid (validB K = true ∧ GdOk K) ∧ Hid (K.wide = G.wide ∧ K.high = G.high) ∧ Hid (GBox wr B K) ∧ Hid (GBox wr w.heap.size zG) ∧ Hid (Below w.heap.size w wr)) (fun i _ => n - (intOf i).toNat)
  case atStart => exact ⟨0, G, by omega, rfl, HR, HVV, Lib.hid ⟨rfl, rfl⟩, PG, P2, PB⟩
  case round =>
    clear PG P2 PB
    obtain ⟨k, K, hk, rfl, hU, HV, HW, Q1, Q2, QB⟩ := hrel
    have zr := Q1.out.lt
    by_cases hlt : k < n
    · have hki : (k : Int) < n := by omega
      obtain ⟨e, he⟩ : ∃ e, L[k]? = some e := ⟨_, List.getElem?_eq_getElem (by rw [HN.out]; exact hlt)⟩
      obtain ⟨b, o, rfl, hr⟩ := (P0.out.keep QB.out) k e he
      have hpe := HM.out e (List.mem_of_getElem? he)
      have hU2 := hU.out
      rw [drop_at he] at hU2
      obtain ⟨xo, xc, r⟩ := e
      simp only [pmB, Bool.and_eq_true] at hpe
      obtain ⟨q, rfl, hq64, hi⟩ := inB_cast hpe.2.1
      have hiK : isB K q = true := by
        unfold isB at hi ⊢
        rw [HW.out.1, HW.out.2]
        exact hi
      obtain ⟨w1, w2, w3⟩ := water_is (r := r) hpe.2.2
      obtain ⟨t, ht, hf, hpm⟩ := sub_is HV.out.1 hq64 hiK w2
      have hTK : takeG K (xo, (q : Int), r) = { K with g := upd K.g q t } := by
        show pmpG K (q : Int).toNat (watN r) = _
        rw [Int.toNat_natCast, hpm]
      rw [← hTK] at hpm
      have HTG := Lib.hid hTK
      have HOK := Lib.hid (show GdOk (takeG K (xo, (q : Int), r)) by rw [hTK]; exact ok_pmp HV.out.2 hf)
      have HTW := Lib.hid (show (takeG K (xo, (q : Int), r)).wide = G.wide ∧ (takeG K (xo, (q : Int), r)).high = G.high by rw [hTK]; exact HW.out)
      have HT := Lib.hid (show ∀ z, num .f32 z = fop .f32 .sub (num .f32 (K.g q)) (waterO r) → z = t from fun z hz => by
        rw [w1] at hz
        have h0 : num .f32 (watN r) = some (watN r) := by
          refine num_some ?_
          cases h : nanK .f32 (watN r)
          · rfl
          · rw [plain_nan h] at w2; cases w2
        rw [← h0, ht] at hz
        exact (num_eq_some hz).1)
      have HU := Lib.hid hU2
      have c1 : wr.cell? ⟨b, o + k * 3 + 1, none⟩ = some (.int .i8 (q : Int)) := hr 1 _ rfl
      have c2 : wr.cell? ⟨b, o + k * 3 + 2, none⟩ = some (.int .i16 r) := hr 2 _ rfl
      have hg := Q1.out.at'.g
      rw [Nat.zero_add] at hg
      have cG := Grd_fld hg q hq64
      clear he hr hpe hU2 hU hi hiK w1 w2 w3 ht hf hpm hTK hg
      go_upto_region 6 with (fail)
      refine wp_region_calm (ops' := regOf Tryz.f49 6) [0, 1, 2, 3, 4, 5, 6, 7, 8, 9, 10, 11, 12, 13, 14] [15] (.run 15 .fin) (Quiet wr) [(0, One (.int .i8 (q : Int))), (1, One (.int .i8 (q : Int))), (2, One (.pointer (some ⟨B, 66, none⟩))), (3, One (.pointer (some ⟨B, 66 + q, none⟩))), (4, One (.float .f32 (K.g q))), (5, One (.slice (some ⟨b, o, none⟩) n c)), (6, One (.int .i64 (k : Int))), (7, One (.pointer (some ⟨b, o + k * 3, none⟩))), (8, One (.pointer (some ⟨b, o + k * 3 + 2, none⟩))), (9, One (.int .i16 r)), (10, One (.float .f32 (floatOfInt .f32 r))), (11, Numv .f32 (fop .f32 .quo (num .f32 (floatOfInt .f32 r)) (num .f32 1082130432))), (12, Numv .f32 (fop .f32 .sub (num .f32 (K.g q)) (fop .f32 .quo (num .f32 (floatOfInt .f32 r)) (num .f32 1082130432)))), (13, One (.pointer (some ⟨B, 66, none⟩))), (14, One (.pointer (some ⟨B, 66 + q, none⟩)))] (by kernel_rfl) (by kernel_rfl) (by kernel_rfl) (by kernel_rfl) (by kernel_rfl) (by kernel_rfl) (by kernel_rfl) (by kernel_rfl) rfl ((Quiet.refl _).drewN 1) ?_
      refine calm_pure (some 27) (by kernel_rfl) (by kernel_rfl) (by kernel_rfl) (fun _ => by kernel_rfl) ?_
      refine calm_pure (some 28) (by kernel_rfl) (by kernel_rfl) (by kernel_rfl) (fun _ => by kernel_rfl) ?_
      refine calm_pure (some 29) (by kernel_rfl) (by kernel_rfl) (by kernel_rfl) (fun _ => by kernel_rfl) ?_
      refine calm_pure (some 30) (by kernel_rfl) (by kernel_rfl) (by kernel_rfl) (fun _ => index_fld8 (x := .tmp 29) (y := .tmp 28) (o := 66) (by kernel_rfl) (by kernel_rfl) (by kernel_rfl) hq64 _) ?_
      refine calm_read (some 31) (by kernel_rfl) (by kernel_rfl) (by kernel_rfl) (fun w' hw' => load_cell (ty := 23) (x := .tmp 30) (b := B) (o := 66 + q) (by kernel_rfl) (by kernel_rfl) Tryz.underlying23 rfl (kq cG w' hw')) ?_
      refine calm_pure (some 32) (by kernel_rfl) (by kernel_rfl) (by kernel_rfl) (fun _ => by kernel_rfl) ?_
      refine calm_pure (some 33) (by kernel_rfl) (by kernel_rfl) (by kernel_rfl) (fun _ => by kernel_rfl) ?_
      refine calm_pure (some 34) (by kernel_rfl) (by kernel_rfl) (by kernel_rfl) (fun _ => index_pm (T := 43) (n := n) (c := c) (x := .tmp 32) (y := .tmp 33) (by kernel_rfl) (.inl rfl) (by kernel_rfl) (by kernel_rfl) hlt _) ?_
      refine calm_pure (some 35) (by kernel_rfl) (by kernel_rfl) (by kernel_rfl) (fun _ => by kernel_rfl) ?_
      refine calm_read (some 36) (by kernel_rfl) (by kernel_rfl) (by kernel_rfl) (fun w' hw' => load_cell (ty := 80) (x := .tmp 35) (b := b) (o := o + k * 3 + 2) (by kernel_rfl) (by kernel_rfl) Tryz.underlying80 rfl (kq c2 w' hw')) ?_
      refine calm_pure (some 37) (by kernel_rfl) (by kernel_rfl) (by kernel_rfl) (fun _ => by kernel_rfl) ?_
      refine calm_float (some 38) .f32 .quo 23 23 (.tmp 37) ((.const (.float .f32 1082130432))) ((floatOfInt .f32 r)) (1082130432) (by kernel_rfl) (by kernel_rfl) (by kernel_rfl) (by kernel_rfl) rfl (by kernel_rfl) (by kernel_rfl) (fun _ n h => h.drewN n) (rfl) ?_
      intro r38 hr38
      refine calm_float (some 39) .f32 .sub 23 23 (.tmp 31) (.tmp 38) ((K.g q)) (r38) (by kernel_rfl) (by kernel_rfl) (by kernel_rfl) (by kernel_rfl) rfl (by kernel_rfl) (by kernel_rfl) (fun _ n h => h.drewN n) (fop_eq (rfl) hr38) ?_
      intro r39 hr39
      refine calm_pure (some 40) (by kernel_rfl) (by kernel_rfl) (by kernel_rfl) (fun _ => by kernel_rfl) ?_
      refine calm_pure (some 41) (by kernel_rfl) (by kernel_rfl) (by kernel_rfl) (fun _ => index_fld8 (x := .tmp 40) (y := .tmp 27) (o := 66) (by kernel_rfl) (by kernel_rfl) (by kernel_rfl) hq64 _) ?_
      refine calm_end fun w' hw' => plan_do none undef (w'.setCell ⟨B, 66 + q, none⟩ (.float .f32 r39)) (by kernel_rfl) (by kernel_rfl) (by kernel_rfl) (.inr ⟨store_f32 (x := .tmp 41) (y := .tmp 39) (by kernel_rfl) (by kernel_rfl) (by kernel_rfl) infoF32 (u := .float .f32 (K.g q)) (kq cG w' hw') ((Q1.out.below (hw'.below (B + 1)) (by omega)).free (66 + q) (by omega)), rfl⟩) trivial (plan_end (Clean.normal ?_))
      obtain rfl := HT.out _ hr39
      have S1 := Lib.hid (show GBox (w'.setCell ⟨B, 66 + q, none⟩ (.float .f32 r39)) B (takeG K (xo, (q : Int), r)) by rw [HTG.out]; exact (Q1.out.below (hw'.below (B + 1)) (by omega)).putG (x := r39) hq64)
      have S2 := Lib.hid ((Q2.out.below (hw'.below (w.heap.size + 1)) (by omega)).far (b' := B) (k := 66 + q) (v := .float .f32 r39) (by omega))
      have SB := Lib.hid ((QB.out.trans (hw'.below _)).setCell (p := ⟨B, 66 + q, none⟩) (by show w.heap.size ≤ B; omega) (.float .f32 r39))
      obtain ⟨Z, hZ⟩ : ∃ Z, w'.setCell ⟨B, 66 + q, none⟩ (.float .f32 r39) = Z := ⟨_, rfl⟩
      rw [hZ] at S1 S2 SB ⊢
      clear hr38 hr39 cG c1 c2 hZ hw' HT HTG
      obtain ⟨KT, hKT⟩ : ∃ KT, takeG K (xo, (q : Int), r) = KT := ⟨_, rfl⟩
      simp only [Act.put, List.setIfInBounds_toArray, List.set_cons_zero, List.set_cons_succ]
      cases hvt : validB (takeG K (xo, (q : Int), r))
      · have HU := Lib.hid ((gwR_no hvt).symm.trans HU.out)
        rw [hKT] at hvt S1 HOK
        have Hv := Lib.hid hvt
        clear hvt hKT HTW
        go_wp2_with (first | (go_at_call 82; have hc := l01Ok_any KT B Z S1.out.at' HOK.out; rw [Hv.out] at hc; refine hc.mono ?_; clear hc; rintro e w'' ⟨rfl, m, rfl⟩; have T2 := Lib.hid (S2.out.below (Quiet.below ⟨m, rfl⟩ (w.heap.size + 1) : Below (w.heap.size + 1) Z (World.drewN Z m)) (by omega)); have t1 := T2.out.there; have TB := Lib.hid (SB.out.trans (Quiet.below ⟨m, rfl⟩ _) : Below w.heap.size w (World.drewN Z m))) | (refine st_stage 36 rfl ?_; refine wpList_store_mid rfl 36 _ _ rfl _ 0 (Grd (zG)) rfl rfl (by rw [Grd_size]; with_reducible exact t1) (by rw [Grd_size]; exact infoGround) (Grd_one _) ?_))
        refine bodyPost_ret (ret_GN rfl rfl rfl T2.out.store.range) rfl ⟨by rw [← HU.out], below_setCells _ (Nat.le_refl _) _ _ _ TB.out⟩
      · have HU := Lib.hid ((gwR_yes hvt).symm.trans HU.out)
        rw [hKT] at hvt S1 HOK HU HTW
        have Hv := Lib.hid hvt
        clear hvt hKT
        go_wp2_with (go_at_call 82; have hc := l01Ok_any KT B Z S1.out.at' HOK.out; rw [Hv.out] at hc; refine hc.mono ?_; clear hc; rintro e w'' ⟨rfl, m, rfl⟩; have T1 := Lib.hid (S1.out.below (Quiet.below ⟨m, rfl⟩ (B + 1) : Below (B + 1) Z (World.drewN Z m)) (by omega)); have T2 := Lib.hid (S2.out.below (Quiet.below ⟨m, rfl⟩ (w.heap.size + 1) : Below (w.heap.size + 1) Z (World.drewN Z m)) (by omega)); have TB := Lib.hid (SB.out.trans (Quiet.below ⟨m, rfl⟩ _) : Below w.heap.size w (World.drewN Z m)))
        go_roundw
        case rel => exact ⟨k + 1, KT, by omega, by go_num, HU, Lib.hid ⟨Hv.out, HOK.out⟩, HTW, T1, T2, TB⟩
        case measure => simp [intOf]; omega
    · obtain rfl : n = k := by omega
      have HU := Lib.hid (show ((settR 981467136 1000 1 K).1, (settR 981467136 1000 1 K).2.2) = R by rw [← hU.out, ← HN.out, List.drop_length]; rfl)
      obtain ⟨A, x, y, hA⟩ : ∃ A x y, settR 981467136 1000 1 K = (A, x, y) := ⟨_, _, _, rfl⟩
      have HA := Lib.hid (show tripV (settR 981467136 1000 1 K) = .tuple #[.agg (Grd A), .int .i64 x, .int .i64 y] by rw [hA]; rfl)
      have HR2 := Lib.hid (show R = (A, y) by rw [← HU.out, hA])
      have hx := plain_1024
      clear hU hA
      go_upto_region 10 with (first | (go_at_call 83; have hc := l02Settle_any K 981467136 1000 (by decide) hx B wr Q1.out HV.out.1 HV.out.2; rw [HA.out] at hc; refine hc.mono ?_; clear hc; rintro e V1 ⟨rfl, hb⟩; have hnt := new_thereG 36 V1) | (refine st_stage 36 rfl ?_; refine wpList_store_mid rfl 36 _ _ rfl _ 0 (Grd (A)) rfl rfl (by rw [Grd_size]; with_reducible exact hnt) (by rw [Grd_size]; exact infoGround) (Grd_one _) ?_))
      obtain ⟨X, hX, zX, gX, bX⟩ := stored_box A 36 V1
      rw [hX]
      have T2 := Lib.hid ((Q2.out.below hb Q2.out.lt).below bX (by have := Q2.out.lt; have := hb.size; omega))
      have TB := Lib.hid ((QB.out.trans (hb.mono (by omega))).trans (bX.mono (by have := hb.size; omega)))
      have rX := gX.range
      have tX := T2.out.there
      have hVX : V1.heap.size < X.heap.size := by omega
      clear hX hb bX zX gX hnt
      go_wp2_with (first | (refine ld_stage 36 rfl ?_; refine wpList_load_mid rfl 36 _ rfl (V1.heap.size) 0 rfl (GrdL (A)) _ rX Tryz.underlying36 rfl (by rw [GrdL_length]; exact infoGround) ?_) | (refine st_stage 36 rfl ?_; refine wpList_store_mid rfl 36 _ _ rfl _ 0 (Grd (A)) rfl rfl (by rw [Grd_size]; with_reducible exact tX) (by rw [Grd_size]; exact infoGround) (Grd_one _) ?_))
      refine bodyPost_ret (ret_GN rfl rfl rfl T2.out.store.range) rfl ⟨by rw [HR2.out], below_setCells _ (Nat.le_refl _) _ _ _ TB.out⟩
end Go.Proofs.YtaghnminpfgdcaaGreatDoor
