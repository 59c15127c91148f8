/- A step of heads: what it reckons, and the model's. No condition. -/
import Derived.Test.YtinepldaodadiaaDoorMsA
import Derived.Test.YtinepldaodadiaaDoorFree
import Derived.Test.YtinepldaodadiaaDoorWarmS
namespace Go.Proofs.YtinepldaodadiaaDoor
open Go.RowKit Go.Shelf
attribute [local go_sem] Oper.semAt_some run_store_float
set_option linter.unusedSimpArgs false
set_option linter.unusedVariables false

/-- The head of a cell behind a step. -/
def nxT (G : Gd) (p : Nat) (H : Gd) (k : Nat) : Option Nat := if G.x.toNat.testBit k = true then num .f32 (H.h k) else fop .f32 .add (num .f32 (H.h k)) (fop .f32 .mul (num .f32 p) (num .f32 (balF G k)))
theorem nxT_fix {G H : Gd} {p k : Nat} (h : G.x.toNat.testBit k = true) : nxT G p H k = num .f32 (H.h k) := by simp [nxT, h]
theorem nxT_free {G H : Gd} {p k : Nat} (h : G.x.toNat.testBit k = false) : nxT G p H k = fop .f32 .add (num .f32 (H.h k)) (fop .f32 .mul (num .f32 p) (num .f32 (balF G k))) := by simp [nxT, h]
def stpF (G : Gd) (p : Nat) : Gd × Bool × Nat := swp (nxT G p) G (bitsL (cellsN G))
/-- A step of a ground that is valid. -/
def stpR (G : Gd) (p : Nat) : Gd × Int := if (allFin G && (stpF G p).2.1) = true then ((stpF G p).1, 0) else (zG, 4)
theorem stpR_yes {G : Gd} {p : Nat} (h1 : allFin G = true) (h2 : (stpF G p).2.1 = true) : stpR G p = ((stpF G p).1, 0) := by simp [stpR, h1, h2]
theorem stpR_nf {G : Gd} {p : Nat} (h1 : allFin G = false) : stpR G p = (zG, 4) := by simp [stpR, h1]
theorem stpR_np {G : Gd} {p : Nat} (h2 : (stpF G p).2.1 = false) : stpR G p = (zG, 4) := by simp [stpR, h2]
theorem stpF_valid {G : Gd} {p : Nat} (hv : validB G = true) (hG : GdOk G) (h : (stpF G p).2.1 = true) : validB (stpF G p).1 = true ∧ GdOk (stpF G p).1 := by
  have e : bitsL (cellsN G) = cellTo G 64 := cellL_bits G
  unfold stpF at h ⊢
  rw [e] at h ⊢
  exact swp_valid _ hv hG _ (cellTo_ok G 64 (Nat.le_refl _)) h
theorem stpR_good {G : Gd} {p : Nat} (hv : validB G = true) (hG : GdOk G) (h : (stpR G p).2 = 0) : validB (stpR G p).1 = true ∧ GdOk (stpR G p).1 := by
  unfold stpR at h ⊢
  split
  · rename_i hc
    simp only [Bool.and_eq_true] at hc
    exact stpF_valid hv hG hc.2
  · rename_i hc
    rw [if_neg hc] at h
    cases h
theorem stpR_code {G : Gd} {p : Nat} : (stpR G p).2 = 0 ∨ stpR G p = (zG, 4) := by
  unfold stpR
  split
  · exact .inl rfl
  · exact .inr rfl
/-- The cells that are not fixed are enough. -/
theorem swp_free {G : Gd} {p : Nat} (hv : validB G = true) : ∀ n, n ≤ 64 → (swp (nxT G p) G (frTo G n)).1 = (swp (nxT G p) G (cellTo G n)).1 ∧ (swp (nxT G p) G (frTo G n)).2.1 = (swp (nxT G p) G (cellTo G n)).2.1
  | 0, _ => ⟨rfl, rfl⟩
  | n + 1, hn => by
    obtain ⟨h1, h2⟩ := swp_free hv n (by omega)
    rw [cellTo_succ]
    cases hi : isB G n
    · rw [frTo_no (by rw [hi]; rfl)]
      exact ⟨h1, h2⟩
    · rw [if_pos rfl, swp_snoc]
      cases hf : G.x.toNat.testBit n
      · rw [frTo_yes hi hf, swp_snoc]
        unfold swStep
        rw [h1, h2]
        exact ⟨rfl, rfl⟩
      · rw [frTo_no (by rw [hf]; simp)]
        have ho := swp_other (nxT G p) G n n (Nat.le_refl _)
        have hp : plainB (G.h n) = true := valid_heads hv (by omega) hi
        have hn2 : num .f32 (G.h n) = some (G.h n) := by
          refine num_some ?_
          cases h : nanK .f32 (G.h n)
          · rfl
          · rw [plain_nan h] at hp; cases hp
        have e : nxT G p (swp (nxT G p) G (cellTo G n)).1 n = some (G.h n) := by rw [nxT_fix hf, ho, hn2]
        unfold swStep
        rw [e, h1, h2]
        refine ⟨?_, ?_⟩
        · show _ = putHd _ n (G.h n)
          rw [← ho, putHd_self]
        · show _ = (_ && plainB (G.h n))
          rw [hp, Bool.and_true]
theorem stpF_free {G : Gd} {p : Nat} (hv : validB G = true) : (swp (nxT G p) G (frTo G 64)).1 = (stpF G p).1 ∧ (swp (nxT G p) G (frTo G 64)).2.1 = (stpF G p).2.1 := by
  have e : bitsL (cellsN G) = cellTo G 64 := cellL_bits G
  unfold stpF
  rw [e]
  exact swp_free hv 64 (Nat.le_refl _)
theorem balF_fin {G : Gd} (h : allFin G = true) {k : Nat} (hk : k < 64) (hi : isB G k = true) : num .f32 (balF G k) = balO G k := by
  unfold allFin at h
  have := List.all_eq_true.1 h k (by simpa using hk)
  simp only [hi, Bool.not_true, Bool.false_or] at this
  obtain ⟨r, hr⟩ := balO_ex G k
  unfold balF
  rw [if_pos hi]
  rw [← hr] at this ⊢
  cases hn : nanK .f32 r
  · simp [num, hn]
  · simp [num, hn, finO] at this

set_option maxRecDepth 100000 in
set_option maxHeartbeats 2000000 in
theorem l06Stepped_no (G : Gd) (part : Nat) (p : Nat) (w : World) (hp : GBox w p G) (hv : validB G = true) (hG : GdOk G) (ha : allFin G = false) :
    Calls Tryd.prog 10 #[.pointer (some ⟨p, 0, none⟩), .float .f32 part] w fun e w' => e = .returned (GN (stpR G part).1 (stpR G part).2) ∧ Below w.heap.size w w' := by
  have hz := (zero_of_info zeroGround).1
  have hzf := (zero_of_info zeroField).1
  have hpl := hp.lt
  have HR := Lib.hid (stpR_nf (p := part) ha)
  have HBV := Lib.hid (show balsB G = .tuple #[.agg (Fld zf), .bool false] by simp [balsB, ha, FB])
  have HV := Lib.hid hv
  have HG := Lib.hid hG
  clear hv hG ha
  go_enter Tryd.func10, Tryd.ntmps10
  go_upto_region 1 with (fail)
  obtain ⟨W, hW, zW, g1, hB⟩ := gbox1 zG 30 w
  rw [hW]
  clear hW
  have GP := Lib.hid (hp.below hB hpl)
  have G1 := Lib.hid g1
  have HB := Lib.hid hB
  clear g1 hB hp
  go_wp2_with (first | (go_at_call 19; have hc := l01Balances_any G HV.out p W GP.out.at' (by omega) HG.out; rw [HBV.out] at hc; refine hc.mono ?_; clear hc; rintro e V ⟨rfl, hb⟩; have SR := Lib.hid (G1.out.below hb (by omega)); have BV := Lib.hid (HB.out.trans (hb.mono (by omega))); have tF := new_thereF 28 V; clear hb) | (refine st_stage 28 rfl ?_; refine wpList_store_mid rfl 28 _ _ rfl _ 0 (Fld (zf)) rfl rfl (by rw [Fld_size]; with_reducible exact tF) (by rw [Fld_size]; exact infoField) (Fld_one _) ?_; obtain ⟨X, hX, zX, gX, bX⟩ := stored_fld zf 28 V; rw [hX]; have SX := Lib.hid (SR.out.below bX SR.out.lt); have BX := Lib.hid (BV.out.trans (bX.mono BV.out.size)); have tt := SX.out.there; clear hX tF zX gX bX) | (refine st_stage 30 rfl ?_; refine wpList_store_mid rfl 30 _ _ rfl _ 0 (Grd (zG)) rfl rfl (by rw [Grd_size]; with_reducible exact tt) (by rw [Grd_size]; exact infoGround) (Grd_one _) ?_))
  refine bodyPost_ret (ret_GN rfl rfl rfl SX.out.store.range) rfl ⟨by rw [HR.out], below_setCells _ (Nat.le_refl _) _ _ _ BX.out⟩

set_option maxRecDepth 100000 in
set_option maxHeartbeats 2000000 in
theorem l06Stepped_yes (G : Gd) (part : Nat) (p : Nat) (w : World) (hp : GBox w p G) (hv : validB G = true) (hG : GdOk G) (ha : allFin G = true) :
    Calls Tryd.prog 10 #[.pointer (some ⟨p, 0, none⟩), .float .f32 part] w fun e w' => e = .returned (GN (stpR G part).1 (stpR G part).2) ∧ Below w.heap.size w w' := by
  have hz := (zero_of_info zeroGround).1
  have hzf := (zero_of_info zeroField).1
  have hpl := hp.lt
  have HA := Lib.hid ha
  have HBV := Lib.hid (show balsB G = .tuple #[.agg (Fld (balF G)), .bool true] by simp [balsB, ha, FB])
  have HV := Lib.hid hv
  have HG := Lib.hid hG
  clear hv hG ha
  go_enter Tryd.func10, Tryd.ntmps10
  go_upto_region 1 with (fail)
  obtain ⟨W, hW, zW, g1, hB⟩ := gbox1 zG 30 w
  rw [hW]
  clear hW
  have GP := Lib.hid (hp.below hB hpl)
  have G1 := Lib.hid g1
  have HB := Lib.hid hB
  clear g1 hB hp
  go_upto_region 4 with (first | (go_at_call 19; have hc := l01Balances_any G HV.out p W GP.out.at' (by omega) HG.out; rw [HBV.out] at hc; refine hc.mono ?_; clear hc; rintro e V ⟨rfl, hb⟩; have tF := new_thereF 28 V) | (refine st_stage 28 rfl ?_; refine wpList_store_mid rfl 28 _ _ rfl _ 0 (Fld (balF G)) rfl rfl (by rw [Fld_size]; with_reducible exact tF) (by rw [Fld_size]; exact infoField) (Fld_one _) ?_))
  obtain ⟨X, hX, zX, gX, bX⟩ := stored_fld (balF G) 28 V
  have tX : X.there V.heap.size 0 64 := by
    rw [← hX]
    exact there_setCells (new_thereF _ V)
  rw [hX]
  have zV := hb.size
  have k1 := hb.trans (bX.mono hb.size)
  obtain ⟨N, hN⟩ : ∃ N, V.heap.size = N := ⟨_, rfl⟩
  rw [hN] at gX tX zX zV ⊢
  have X1 := Lib.hid (GP.out.below k1 (by omega))
  have X2 := Lib.hid (G1.out.below k1 (by omega))
  have X3 := Lib.hid (⟨gX, tX⟩ : RowAt X N (balF G))
  have BX := Lib.hid (HB.out.trans (k1.mono (by omega)))
  have rX := X1.out.range
  have hnt := new_thereG 30 X
  have ZX := Lib.hid zX
  clear hX hb bX k1 gX tX hN tF GP G1 HB zX
  go_upto_region 5 with (first | (refine ld_stage 30 rfl ?_; refine wpList_load_mid rfl 30 _ rfl (p) 0 rfl (GrdL (G)) _ rX Tryd.underlying30 rfl (by rw [GrdL_length]; exact infoGround) ?_) | (refine st_stage 30 rfl ?_; refine wpList_store_mid rfl 30 _ _ rfl _ 0 (Grd (G)) rfl rfl (by rw [Grd_size]; with_reducible exact hnt) (by rw [Grd_size]; exact infoGround) (Grd_one _) ?_))
  obtain ⟨U, hU, zU, gU, bU⟩ := stored_box G 30 X
  rw [hU]
  obtain ⟨B, hBB⟩ : ∃ B, X.heap.size = B := ⟨_, rfl⟩
  have P1 := Lib.hid (X1.out.below bU X1.out.lt)
  have P2 := Lib.hid (X2.out.below bU X2.out.lt)
  have P3 := Lib.hid (X3.out.below bU X3.out.lt)
  have PB := Lib.hid (BX.out.trans (bU.mono BX.out.size))
  have zX := ZX.out
  rw [hBB] at gU zU zX ⊢
  have P0 := Lib.hid gU
  have PM := Lib.hid (Mst.start (nxT G part) G)
  have hNB : N < B := by omega
  have hpB : p < B := by omega
  have hwN : w.heap.size < N := by omega
  clear rX hnt hU bU gU X1 X2 X3 BX hBB zU zX
  go_wp2
  go_loopw [9] (fun i wr => ∃ (k : Nat) (O : Gd), k ≤ 64 ∧ i = .int .i64 k ∧ Hid (Mst (nxT G part) G k O) ∧ Hid (∀ j, k ≤ j → O.h j = G.h j) ∧ Hid (GBox wr B O) ∧ Hid (GBox wr p G) ∧ Hid (GBox wr w.heap.size zG) ∧ Hid (RowAt wr N (balF G)) ∧ Hid (Below w.heap.size w wr)) (fun i _ => 64 - (intOf i).toNat)
  case atStart => exact ⟨0, G, by omega, rfl, PM, Lib.hid (fun _ _ => rfl), P0, P1, P2, P3, PB⟩
  case round =>
    clear P0 P1 P2 P3 PB PM
    obtain ⟨k, O, hk, rfl, M, E0, Q0, Q1, Q2, Q3, QB⟩ := hrel
    have zr := Q0.out.lt
    by_cases hlt : k < 64
    · have hk2 : (k : Int) < 64 := by omega
      cases hi : isB G k
      · have Hi := Lib.hid hi
        clear hi
        go_wp2_with (go_at_call 20; refine (l01Is_is G k hlt false Hi.out _ _ Q1.out.at' HG.out).mono ?_; rintro e w' ⟨rfl, rfl⟩)
        go_roundw
        case rel => exact ⟨k + 1, O, by omega, by go_num, Lib.hid (M.out.skip Hi.out), Lib.hid (fun j hj => E0.out j (by omega)), Q0, Q1, Q2, Q3, QB⟩
        case measure => simp [intOf]; omega
      · have Hi := Lib.hid hi
        cases hf : G.x.toNat.testBit k
        · have Hf := Lib.hid hf
          have hh := Q1.out.at'.h
          rw [Nat.zero_add] at hh
          have cG := Grd_fld hh k hlt
          have cN : wr.cell? ⟨N, 0 + k, none⟩ = some (.float .f32 (balF G k)) := by rw [Nat.zero_add]; exact Q3.out.cell k hlt
          clear hi hf hh
          go_upto_region 9 with (first | (go_at_call 20; refine (l01Is_is G k hlt true Hi.out _ _ Q1.out.at' HG.out).mono ?_; rintro e w' ⟨rfl, hww⟩; rw [hww]; clear hww w') | (go_at_call 21; refine (l01Fixed_is G k hlt false Hf.out _ _ Q1.out.at' HG.out).mono ?_; rintro e w' ⟨rfl, hww⟩; rw [← hww]; clear hww w'))
          refine wp_region_calm (ops' := regOf Tryd.f10 9) [0, 1, 2, 3, 4, 5, 6, 7, 8, 9, 10, 11, 12, 13, 14] [15] (.run 15 .fin) (Quiet wr) [(0, One (.int .i64 (k : Int))), (1, One (.pointer (some ⟨p, 0, none⟩))), (2, One (.int .i64 (k : Int))), (3, One (.pointer (some ⟨p, 0, none⟩))), (4, One (.pointer (some ⟨p, 130, none⟩))), (5, One (.pointer (some ⟨p, 130 + k, none⟩))), (6, One (.float .f32 (G.h k))), (7, One (.float .f32 part)), (8, One (.int .i64 (k : Int))), (9, One (.pointer (some ⟨N, 0 + k, none⟩))), (10, One (.float .f32 (balF G k))), (11, Numv .f32 (fop .f32 .mul (num .f32 part) (num .f32 (balF G k)))), (12, Numv .f32 (fop .f32 .add (num .f32 (G.h k)) (fop .f32 .mul (num .f32 part) (num .f32 (balF G k))))), (13, One (.pointer (some ⟨B, 130, none⟩))), (14, One (.pointer (some ⟨B, 130 + k, none⟩)))] (by kernel_rfl) (by kernel_rfl) (by kernel_rfl) (by kernel_rfl) (by kernel_rfl) (by kernel_rfl) (by kernel_rfl) (by kernel_rfl) rfl ((Quiet.refl _).drewN 1) ?_
          refine calm_pure (some 34) (by kernel_rfl) (by kernel_rfl) (by kernel_rfl) (fun _ => by kernel_rfl) ?_
          refine calm_pure (some 35) (by kernel_rfl) (by kernel_rfl) (by kernel_rfl) (fun _ => by kernel_rfl) ?_
          refine calm_pure (some 36) (by kernel_rfl) (by kernel_rfl) (by kernel_rfl) (fun _ => by kernel_rfl) ?_
          refine calm_pure (some 37) (by kernel_rfl) (by kernel_rfl) (by kernel_rfl) (fun _ => by kernel_rfl) ?_
          refine calm_pure (some 38) (by kernel_rfl) (by kernel_rfl) (by kernel_rfl) (fun _ => by kernel_rfl) ?_
          refine calm_pure (some 39) (by kernel_rfl) (by kernel_rfl) (by kernel_rfl) (index_fld (x := .tmp 38) (y := .tmp 36) (o := 130) (by kernel_rfl) (by kernel_rfl) (by kernel_rfl) hlt) ?_
          refine calm_read (some 40) (by kernel_rfl) (by kernel_rfl) (by kernel_rfl) (fun w' hw' => load_cell (ty := 23) (x := .tmp 39) (b := p) (o := 130 + k) (by kernel_rfl) (by kernel_rfl) Tryd.underlying23 rfl (kq cG w' hw')) ?_
          refine calm_pure (some 41) (by kernel_rfl) (by kernel_rfl) (by kernel_rfl) (fun _ => by kernel_rfl) ?_
          refine calm_pure (some 42) (by kernel_rfl) (by kernel_rfl) (by kernel_rfl) (fun _ => by kernel_rfl) ?_
          refine calm_pure (some 43) (by kernel_rfl) (by kernel_rfl) (by kernel_rfl) (index_fld (x := .tmp 6) (y := .tmp 42) (o := 0) (by kernel_rfl) (by kernel_rfl) (by kernel_rfl) hlt) ?_
          refine calm_read (some 44) (by kernel_rfl) (by kernel_rfl) (by kernel_rfl) (fun w' hw' => load_cell (ty := 23) (x := .tmp 43) (b := N) (o := 0 + k) (by kernel_rfl) (by kernel_rfl) Tryd.underlying23 rfl (kq cN w' hw')) ?_
          refine calm_float (some 45) .f32 .mul 23 23 (.tmp 41) (.tmp 44) (part) ((balF G k)) (by kernel_rfl) (by kernel_rfl) (by kernel_rfl) (by kernel_rfl) rfl (by kernel_rfl) (by kernel_rfl) (fun _ n h => h.drewN n) (rfl) ?_
          intro r45 hr45
          refine calm_float (some 46) .f32 .add 23 23 (.tmp 40) (.tmp 45) ((G.h k)) (r45) (by kernel_rfl) (by kernel_rfl) (by kernel_rfl) (by kernel_rfl) rfl (by kernel_rfl) (by kernel_rfl) (fun _ n h => h.drewN n) (fop_eq (rfl) hr45) ?_
          intro r46 hr46
          refine calm_pure (some 47) (by kernel_rfl) (by kernel_rfl) (by kernel_rfl) (fun _ => by kernel_rfl) ?_
          refine calm_pure (some 48) (by kernel_rfl) (by kernel_rfl) (by kernel_rfl) (index_fld (x := .tmp 47) (y := .tmp 34) (o := 130) (by kernel_rfl) (by kernel_rfl) (by kernel_rfl) hlt) ?_
          refine calm_end fun w' hw' => plan_do none undef (w'.setCell ⟨B, 130 + k, none⟩ (.float .f32 r46)) (by kernel_rfl) (by kernel_rfl) (by kernel_rfl) (.inr ⟨store_f32 (x := .tmp 48) (y := .tmp 46) (by kernel_rfl) (by kernel_rfl) (by kernel_rfl) infoF32 (u := .float .f32 (O.h k)) (by have h := (Q0.out.below (hw'.below (B + 1)) (by omega)).at'.h; rw [Nat.zero_add] at h; exact Grd_fld h k hlt) ((Q0.out.below (hw'.below (B + 1)) (by omega)).free (130 + k) (by omega)), rfl⟩) trivial (plan_end (Clean.normal ?_))
          have HRr := Lib.hid (show num .f32 r46 = nxT G part O k by rw [nxT_free Hf.out, E0.out k (Nat.le_refl _)]; exact hr46)
          have S0 := Lib.hid ((Q0.out.below (hw'.below (B + 1)) (by omega)).putH (x := r46) hlt)
          have S1 := Lib.hid ((Q1.out.below (hw'.below (B + 1)) (by omega)).far (b' := B) (k := 130 + k) (v := .float .f32 r46) (by omega))
          have S2 := Lib.hid ((Q2.out.below (hw'.below (B + 1)) (by omega)).far (b' := B) (k := 130 + k) (v := .float .f32 r46) (by omega))
          have S3 := Lib.hid ((Q3.out.quiet hw').far (b' := B) (130 + k) (.float .f32 r46) (by omega))
          have SB := Lib.hid ((QB.out.trans (hw'.below _)).setCell (p := ⟨B, 130 + k, none⟩) (by show w.heap.size ≤ B; omega) (.float .f32 r46))
          clear hr45 hr46 cG cN
          simp only [Act.put, List.setIfInBounds_toArray, List.set_cons_zero, List.set_cons_succ]
          go_wp2
          go_roundw
          case rel => exact ⟨k + 1, putHd O k r46, by omega, by go_num, Lib.hid (M.out.put Hi.out HRr.out), Lib.hid (fun j hj => by show upd O.h k r46 j = _; unfold upd; rw [if_neg (by omega)]; exact E0.out j (by omega)), S0, S1, S2, S3, SB⟩
          case measure => simp [intOf]; omega
        · have Hf := Lib.hid hf
          clear hi hf
          go_wp2_with (first | (go_at_call 20; refine (l01Is_is G k hlt true Hi.out _ _ Q1.out.at' HG.out).mono ?_; rintro e w' ⟨rfl, rfl⟩) | (go_at_call 21; refine (l01Fixed_is G k hlt true Hf.out _ _ Q1.out.at' HG.out).mono ?_; rintro e w' ⟨rfl, rfl⟩))
          go_roundw
          case rel => exact ⟨k + 1, O, by omega, by go_num, Lib.hid (M.out.keep Hi.out (nxT_fix Hf.out).symm), Lib.hid (fun j hj => E0.out j (by omega)), Q0, Q1, Q2, Q3, QB⟩
          case measure => simp [intOf]; omega
    · obtain rfl : k = 64 := by omega
      have hV : validB O = (stpF G part).2.1 := M.out.valid HV.out HG.out
      cases hO : (stpF G part).2.1
      · rw [hO] at hV
        have HO := Lib.hid hV
        have HR := Lib.hid (stpR_np hO)
        clear hV hO
        go_wp2_with (first | (go_at_call 16; have hc := l01Ok_any O B wr Q0.out.at' (M.out.ok HG.out); rw [HO.out] at hc; refine hc.mono ?_; clear hc; rintro e w' ⟨rfl, n, rfl⟩; have SR := Lib.hid (Q2.out.below (Quiet.below ⟨n, rfl⟩ (w.heap.size + 1) : Below (w.heap.size + 1) wr (World.drewN wr n)) (by omega)); have t1 := SR.out.there; have BW := Lib.hid (QB.out.trans (Quiet.below ⟨n, rfl⟩ _) : Below w.heap.size w (World.drewN wr n))) | (refine st_stage 30 rfl ?_; refine wpList_store_mid rfl 30 _ _ rfl _ 0 (Grd (zG)) rfl rfl (by rw [Grd_size]; with_reducible exact t1) (by rw [Grd_size]; exact infoGround) (Grd_one _) ?_))
        refine bodyPost_ret (ret_GN rfl rfl rfl SR.out.store.range) rfl ⟨by rw [HR.out], below_setCells _ (Nat.le_refl _) _ _ _ BW.out⟩
      · have hOA : O = (stpF G part).1 := by
          have e : bitsL (cellsN G) = cellTo G 64 := cellL_bits G
          have h2 := hO
          unfold stpF at h2 ⊢
          rw [e] at h2 ⊢
          rcases M.out.heads with ⟨_, b⟩ | ⟨a, _⟩
          · exact b
          · rw [a] at h2; cases h2
        rw [hO] at hV
        have HO := Lib.hid hV
        have HR := Lib.hid (show stpR G part = (O, 0) by rw [hOA]; exact stpR_yes HA.out hO)
        clear hV hO hOA
        go_wp2_with (first | (go_at_call 16; have hc := l01Ok_any O B wr Q0.out.at' (M.out.ok HG.out); rw [HO.out] at hc; refine hc.mono ?_; clear hc; rintro e w' ⟨rfl, n, rfl⟩; have SR := Lib.hid (Q2.out.below (Quiet.below ⟨n, rfl⟩ (w.heap.size + 1) : Below (w.heap.size + 1) wr (World.drewN wr n)) (by omega)); have SO := Lib.hid (Q0.out.below (Quiet.below ⟨n, rfl⟩ (B + 1) : Below (B + 1) wr (World.drewN wr n)) (by omega)); have r1 := SO.out.range; have t1 := SR.out.there; have BW := Lib.hid (QB.out.trans (Quiet.below ⟨n, rfl⟩ _) : Below w.heap.size w (World.drewN wr n))) | (refine ld_stage 30 rfl ?_; refine wpList_load_mid rfl 30 _ rfl (B) 0 rfl (GrdL (O)) _ r1 Tryd.underlying30 rfl (by rw [GrdL_length]; exact infoGround) ?_) | (refine st_stage 30 rfl ?_; refine wpList_store_mid rfl 30 _ _ rfl _ 0 (Grd (O)) rfl rfl (by rw [Grd_size]; with_reducible exact t1) (by rw [Grd_size]; exact infoGround) (Grd_one _) ?_))
        refine bodyPost_ret (ret_GN rfl rfl rfl SR.out.store.range) rfl ⟨by rw [HR.out], below_setCells _ (Nat.le_refl _) _ _ _ BW.out⟩

theorem l06Stepped_any (G : Gd) (part : Nat) (p : Nat) (w : World) (hp : GBox w p G) (hv : validB G = true) (hG : GdOk G) :
    Calls Tryd.prog 10 #[.pointer (some ⟨p, 0, none⟩), .float .f32 part] w fun e w' => e = .returned (GN (stpR G part).1 (stpR G part).2) ∧ Below w.heap.size w w' := by
  cases ha : allFin G
  · exact l06Stepped_no G part p w hp hv hG ha
  · exact l06Stepped_yes G part p w hp hv hG ha

/-- What is asked of a step. -/
def askT (G : Gd) (p : Nat) : Int := if (validB G && plainB p) = true then 0 else 1
set_option maxRecDepth 100000 in
set_option maxHeartbeats 2000000 in
theorem l06Asked_any (G : Gd) (part : Nat) (p : Nat) (w : World) (hp : GBox w p G) (hG : GdOk G) :
    Calls Tryd.prog 8 #[.pointer (some ⟨p, 0, none⟩), .float .f32 part] w fun e w' => e = .returned (.int .i64 (askT G part)) ∧ Quiet w w' := by
  have HP := Lib.hid hp
  have HG := Lib.hid hG
  clear hp hG
  cases hv : validB G
  · have Hv := Lib.hid hv
    have HR := Lib.hid (show askT G part = 1 by simp [askT, hv])
    clear hv
    go_enter Tryd.func8, Tryd.ntmps8
    go_wp2_with (go_at_call 16; have hc := l01Ok_any G p w HP.out.at' HG.out; rw [Hv.out] at hc; refine hc.mono ?_; clear hc; rintro e w' ⟨rfl, n, rfl⟩)
    go_ret
    exact ⟨by rw [HR.out]; rfl, ⟨_, rfl⟩⟩
  · have Hv := Lib.hid hv
    cases hq : plainB part
    · have Hq := Lib.hid hq
      have HR := Lib.hid (show askT G part = 1 by simp [askT, hq])
      clear hv hq
      go_enter Tryd.func8, Tryd.ntmps8
      go_wp2_with (first | (go_at_call 16; have hc := l01Ok_any G p w HP.out.at' HG.out; rw [Hv.out] at hc; refine hc.mono ?_; clear hc; rintro e w' ⟨rfl, n, rfl⟩) | (go_at_call 17; refine (l01Plain_is part false Hq.out _).mono ?_; rintro e w' ⟨rfl, rfl⟩))
      go_ret
      exact ⟨by rw [HR.out]; rfl, ⟨_, rfl⟩⟩
    · have Hq := Lib.hid hq
      have HR := Lib.hid (show askT G part = 0 by simp [askT, hv, hq])
      clear hv hq
      go_enter Tryd.func8, Tryd.ntmps8
      go_wp2_with (first | (go_at_call 16; have hc := l01Ok_any G p w HP.out.at' HG.out; rw [Hv.out] at hc; refine hc.mono ?_; clear hc; rintro e w' ⟨rfl, n, rfl⟩) | (go_at_call 17; refine (l01Plain_is part true Hq.out _).mono ?_; rintro e w' ⟨rfl, rfl⟩))
      go_ret
      exact ⟨by rw [HR.out]; rfl, ⟨_, rfl⟩⟩

def stpV (G : Gd) (p : Nat) : Gd × Int := if askT G p = 0 then stpR G p else (zG, 1)
theorem askT_yes {G : Gd} {p : Nat} (h : askT G p = 0) : validB G = true ∧ plainB p = true := by
  unfold askT at h
  split at h
  · rename_i hc; simpa using hc
  · cases h
theorem askT_or (G : Gd) (p : Nat) : askT G p = 0 ∨ askT G p = 1 := by
  unfold askT
  split
  · exact .inl rfl
  · exact .inr rfl
end Go.Proofs.YtinepldaodadiaaDoor
