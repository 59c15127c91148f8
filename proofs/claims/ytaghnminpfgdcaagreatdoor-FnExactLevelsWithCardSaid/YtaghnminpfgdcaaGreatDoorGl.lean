/- The code of a refusal; GroundWith, of both sides. Conditions: errors.errorType and the table of math/bits are laid (the program's). -/
import Derived.Test.YtaghnminpfgdcaaGreatDoorErr
namespace Go.Proofs.YtaghnminpfgdcaaGreatDoor
open Go Go.RowKit Go.Shelf
attribute [local go_sem] Oper.semAt_some run_store_float
set_option linter.unusedSimpArgs false
set_option linter.unusedVariables false

theorem cell_of_range1 {w : World} {b : Nat} {v : Value} {l : List Value} (h : w.rangeAt b 0 (v :: l)) : w.cell? ⟨b, 0, none⟩ = some v := by simpa using h 0 v rfl
theorem code_box (t : TypeId) (w : World) (hE : ErrT w) : ∃ W, w.alloc (.cells #[.int .i64 0] t) = W ∧ W.heap.size = w.heap.size + 1 ∧ W.cell? ⟨w.heap.size, 0, none⟩ = some (.int .i64 0) ∧ W.there w.heap.size 0 1 ∧ ErrT W ∧ Below w.heap.size w W :=
  ⟨_, rfl, by simp, by simp, there_row (C := #[.int .i64 0]) (heap_alloc_last w _) rfl, hE.below ((Below.refl _ _).alloc (Nat.le_refl _) _) (errT_lt hE), (Below.refl _ _).alloc (Nat.le_refl _) _⟩
set_option maxRecDepth 100000 in
set_option maxHeartbeats 2000000 in
theorem groundCode_err (n : Int) (w : World) (hE : ErrT w) :
    Calls Tryz.prog 54 #[errG n] w fun e w' => e = .returned (.int .i64 n) ∧ Below w.heap.size w w' := by
  by_cases h0 : n = 0
  · subst h0
    rw [errG_0]
    go_enter Tryz.func54, Tryz.ntmps54
    go_upto_region 2 with (fail)
    obtain ⟨W, hW, zW, c0, t0, hE1, hB⟩ := code_box 138 w hE
    rw [hW]
    clear hW
    go_wp2_with (go_at_call 62; refine (as_nil _ _).mono ?_; rintro e V ⟨rfl, rfl⟩)
    go_ret
    exact ⟨rfl, hB⟩
  · rw [errG_ne h0]
    go_enter Tryz.func54, Tryz.ntmps54
    go_upto_region 2 with (fail)
    obtain ⟨W, hW, zW, c0, t0, hE1, hB⟩ := code_box 138 w hE
    rw [hW]
    clear hW
    go_wp2_with (go_at_call 62; refine (as_hitG n w.heap.size W hE1 t0 (errT_lt hE) (by omega)).mono ?_; rintro e V ⟨rfl, hb, hr⟩; have hc := cell_of_range1 hr)
    go_ret
    exact ⟨rfl, hB.trans hb⟩
set_option maxRecDepth 100000 in
set_option maxHeartbeats 2000000 in
theorem groundCode_low (i z : Nat) (w : World) (hE : ErrT w) :
    Calls Tryz.prog 54 #[tooL i z] w fun e w' => e = .returned (.int .i64 0) ∧ Below w.heap.size w w' := by
  unfold tooL
  go_enter Tryz.func54, Tryz.ntmps54
  go_upto_region 2 with (fail)
  obtain ⟨W, hW, zW, c0, t0, hE1, hB⟩ := code_box 138 w hE
  rw [hW]
  clear hW
  go_wp2_with (go_at_call 62; refine (as_miss (i : Int) z w.heap.size W hE1).mono ?_; rintro e V ⟨rfl, hb⟩)
  go_ret
  exact ⟨rfl, hB.trans (hb.mono hB.size)⟩

theorem obg (B : Ofc) (t u : TypeId) (w : World) : ∃ W, (w.alloc (.cells (OfA B) t)).alloc (.cells (Grd zG) u) = W ∧ W.heap.size = w.heap.size + 1 + 1 ∧ OfBox W w.heap.size B ∧ GBox W (w.heap.size + 1) zG ∧ Below w.heap.size w W := by
  obtain ⟨V, hV, z1, b1, hb1⟩ := obox1 B t w
  obtain ⟨W, hW, z2, b2, hb2⟩ := gbox1 zG u V
  refine ⟨W, by rw [hV, hW], by omega, b1.below hb2 (by omega), by rw [z1] at b2; exact b2, hb1.trans (hb2.mono hb1.size)⟩
set_option maxRecDepth 100000 in
set_option maxHeartbeats 2000000 in
theorem specGroundWith_any (G : Gd) (pw : Option Addr) (cw : Nat) (Lw : List T2) (hLw : Lw.length ≤ 1048576) (hOw : ∀ e ∈ Lw, okT2 e) (p : Option Addr) (c : Nat) (L : List P3) (hL : L.length ≤ 1048576) (hO : ∀ e ∈ L, okPQ e) (w : World) (hpw : TsAt w pw Lw) (hp : PsAt w p L) (hG : GdOk G) :
    Calls Tryz.prog 14 #[.agg (OfA ⟨G, pw, Lw.length, cw⟩), .slice p L.length c] w fun e w' => e = .returned (GN (gwV G Lw L).1 (gwV G Lw L).2) ∧ Below w.heap.size w w' := by
  have hz := (zero_of_info zeroGround).1
  obtain ⟨W, hW, hs, b1, g2, hB⟩ := obg ⟨G, pw, Lw.length, cw⟩ 41 36 w
  have T := l07Fits_any G pw cw Lw hLw hOw p c L hL hO w.heap.size W b1.at' (by omega) (hpw.keep hB) (hp.keep hB) hG
  have HB := Lib.hid hB
  have G2 := Lib.hid g2
  cases hpr : prmB G Lw L
  · rw [hpr] at T
    have T := Lib.hid T
    have HR := Lib.hid (show gwV G Lw L = (zG, 1) by simp [gwV, hpr])
    obtain ⟨A, hA⟩ : ∃ A, OfA ⟨G, pw, Lw.length, cw⟩ = A := ⟨_, rfl⟩
    rw [hA] at hW ⊢
    obtain ⟨n, hn⟩ : ∃ n, L.length = n := ⟨_, rfl⟩
    rw [hn] at T ⊢
    clear b1 hp hB hA hn hpw hOw hO hpr g2
    go_enter Tryz.func14, Tryz.ntmps14
    go_upto_region 1 with (fail)
    try rw [hW]
    clear hW
    go_wp2_with (first | (go_at_call 48; refine T.out.mono ?_; rintro e V ⟨rfl, hV⟩; have S2 := Lib.hid (G2.out.below hV (by omega)); have t1 := S2.out.there; have HV := Lib.hid (HB.out.trans (hV.mono HB.out.size)); clear hV) | (refine st_stage 36 rfl ?_; refine wpList_store_mid rfl 36 _ _ rfl _ 0 (Grd (zG)) rfl rfl (by rw [Grd_size]; with_reducible exact t1) (by rw [Grd_size]; exact infoGround) (Grd_one _) ?_))
    refine bodyPost_ret (ret_GN rfl rfl rfl S2.out.store.range) rfl ⟨by rw [HR.out], below_setCells _ (by omega) _ _ _ HV.out⟩
  · obtain ⟨hv, hL6, hpm, hm6, hwt⟩ := prm_is hpr
    rw [hpr] at T
    have T := Lib.hid T
    have B1 := Lib.hid b1
    have PW := Lib.hid (hpw.keep hB)
    have PP := Lib.hid (hp.keep hB)
    have hl : w.heap.size < W.heap.size := by omega
    have TK := Lib.hid (fun V (h : Below W.heap.size W V) => l07Ground_any G pw Lw.length cw p c L hL6 hpm hv hG w.heap.size V (B1.out.below h hl) (PP.out.keep h))
    have HR := Lib.hid (show gwV G Lw L = gwR L G by simp [gwV, hpr])
    obtain ⟨R, n0, hR⟩ : ∃ R n0, gwR L G = (R, n0) := ⟨_, _, rfl⟩
    rw [hR] at TK HR
    have TK := Lib.hid (show ∀ V, Below W.heap.size W V → Calls Tryz.prog 49 #[.pointer (some ⟨w.heap.size, 0, none⟩), .slice p L.length c] V fun e w' => e = .returned (.tuple #[.agg (Grd R), .int .i64 n0]) ∧ Below V.heap.size V w' from TK.out)
    obtain ⟨A, hA⟩ : ∃ A, OfA ⟨G, pw, Lw.length, cw⟩ = A := ⟨_, rfl⟩
    rw [hA] at hW ⊢
    obtain ⟨n, hn⟩ : ∃ n, L.length = n := ⟨_, rfl⟩
    rw [hn] at T TK ⊢
    clear b1 hp hB hA hn hpw hOw hO hpr hR hv hL6 hpm hm6 hwt hL hLw hG g2
    go_enter Tryz.func14, Tryz.ntmps14
    go_upto_region 1 with (fail)
    try rw [hW]
    clear hW
    go_wp2_with (first | (go_at_call 48; refine T.out.mono ?_; rintro e V ⟨rfl, hV⟩; have HV := Lib.hid hV; clear hV) | (go_at_call 49; refine (TK.out _ HV.out).mono ?_; rintro e V2 ⟨rfl, hV⟩; have S2 := Lib.hid ((G2.out.below HV.out (by omega)).below hV (by have := HV.out.size; omega)); have t1 := S2.out.there; have HV2 := Lib.hid (HB.out.trans ((HV.out.trans (hV.mono HV.out.size)).mono HB.out.size)); clear hV) | (refine st_stage 36 rfl ?_; refine wpList_store_mid rfl 36 _ _ rfl _ 0 (Grd (R)) rfl rfl (by rw [Grd_size]; with_reducible exact t1) (by rw [Grd_size]; exact infoGround) (Grd_one _) ?_))
    refine bodyPost_ret (ret_GN rfl rfl rfl S2.out.store.range) rfl ⟨by rw [HR.out], below_setCells _ (by omega) _ _ _ HV2.out⟩
set_option maxRecDepth 100000 in
set_option maxHeartbeats 2000000 in
theorem implGroundWith_any (G : Gd) (pw : Option Addr) (cw : Nat) (Lw : List T2) (hLw : Lw.length ≤ 1048576) (hOw : ∀ e ∈ Lw, okT2 e) (p : Option Addr) (c : Nat) (L : List P3) (hL : L.length ≤ 1048576) (hO : ∀ e ∈ L, okPQ e) (w : World) (hpw : TsAt w pw Lw) (hp : PsAt w p L) (hG : GdOk G) (hT : TabAt w) (hE : ErrT w) :
    Calls Tryz.prog 17 #[.agg (OfA ⟨G, pw, Lw.length, cw⟩), .slice p L.length c] w fun e w' => e = .returned (GN (gwV G Lw L).1 (gwV G Lw L).2) ∧ Below w.heap.size w w' := by
  have hz := (zero_of_info zeroGround).1
  obtain ⟨W, hW, hs, b1, g2, hB⟩ := obg ⟨G, pw, Lw.length, cw⟩ 41 36 w
  have T := Lib.hid (groundWith_any G pw cw Lw hLw hOw p c L hL hO w.heap.size W b1 (hpw.keep hB) (hp.keep hB) hG (hT.below hB (tab_lt hT)))
  have HB := Lib.hid hB
  have G2 := Lib.hid g2
  have HE := Lib.hid (hE.below hB (errT_lt hE))
  obtain ⟨R, n0, hR⟩ : ∃ R n0, gwV G Lw L = (R, n0) := ⟨_, _, rfl⟩
  rw [hR] at T ⊢
  obtain ⟨A, hA⟩ : ∃ A, OfA ⟨G, pw, Lw.length, cw⟩ = A := ⟨_, rfl⟩
  rw [hA] at hW ⊢
  obtain ⟨n, hn⟩ : ∃ n, L.length = n := ⟨_, rfl⟩
  rw [hn] at T ⊢
  obtain ⟨eV, heV⟩ : ∃ eV, errG n0 = eV := ⟨_, rfl⟩
  have HC := Lib.hid (fun V (h : ErrT V) => groundCode_err n0 V h)
  simp only [heV] at T HC
  clear b1 hp hB hA hn hpw hOw hO hR hL hLw hG g2 hT heV
  go_enter Tryz.func17, Tryz.ntmps17
  go_upto_region 1 with (fail)
  try rw [hW]
  clear hW
  go_upto_region 2 with (first | (go_at_call 53; refine T.out.mono ?_; rintro e V ⟨rfl, hV⟩; have HV := Lib.hid (HB.out.trans (hV.mono HB.out.size)); have S2 := Lib.hid (G2.out.below hV (by omega)); have EV := Lib.hid (HE.out.below hV (errT_lt HE.out)); clear hV) | (refine st_stage 36 rfl ?_; refine wpList_store_mid rfl 36 _ _ rfl _ 0 (Grd R) rfl rfl (by rw [Grd_size]; exact new_there _ V) (by rw [Grd_size]; exact infoGround) (Grd_one _) ?_; obtain ⟨X, hX, zX, gX, bX⟩ := stored_box R 36 V; rw [hX]; clear hX))
  have lV : w.heap.size + 1 < V.heap.size := S2.out.lt
  have S3 := Lib.hid (S2.out.below bX S2.out.lt)
  have EX := Lib.hid (EV.out.below bX (errT_lt EV.out))
  have HX := Lib.hid (HV.out.trans (bX.mono HV.out.size))
  have GX := Lib.hid gX
  have hSS : ∀ (Z Z' : World), (Below X.heap.size X Z ∧ ErrT Z) → Below Z.heap.size Z Z' → (Below X.heap.size X Z' ∧ ErrT Z') := fun Z Z' h hb => ⟨h.1.trans (hb.mono h.1.size), h.2.below hb (errT_lt h.2)⟩
  clear hs hz gX bX zX
  obtain ⟨N, hN⟩ : ∃ N, V.heap.size = N := ⟨_, rfl⟩
  rw [hN] at GX lV ⊢
  clear hN
  refine wp_region_planL (ops' := regOf Tryz.f17 2) (b := 3) (.take 0 (.take 1 (.run 2 (.run 3 (.take 4 .fin))))) (fun Z => Below X.heap.size X Z ∧ ErrT Z) (by kernel_rfl) (by kernel_rfl) (by kernel_rfl) (by kernel_rfl) (by kernel_rfl) (by kernel_rfl) ⟨(Below.refl _ _).drew, EX.out.below (Below.refl _ _).drew (errT_lt EX.out)⟩ ?_
  refine planL_load (some 13) 36 (.tmp 6) N 0 (GrdL R) _ (by decide) (by kernel_rfl) (by kernel_rfl) (by kernel_rfl) (by kernel_rfl) (by kernel_rfl) (by kernel_rfl) (fun w' hw' => (GX.out.below hw'.1 GX.out.lt).range) Tryz.underlying36 rfl (by rw [GrdL_length]; exact infoGround) ?_
  refine planL_pure (some 14) eV (by decide) (by kernel_rfl) (by kernel_rfl) (by kernel_rfl) (fun _ => (by kernel_rfl)) ?_
  refine planL_call (some 15) 54 #[eV] (by kernel_rfl) (by kernel_rfl) (by kernel_rfl) (by kernel_rfl) ((HC.out _ (EX.out.below (Below.refl _ _).drew (errT_lt EX.out))).mono ?_)
  rintro _ Z1 ⟨rfl, hb1⟩
  have c1 := hSS _ _ ⟨(Below.refl _ _).drew, EX.out.below (Below.refl _ _).drew (errT_lt EX.out)⟩ hb1
  refine ⟨_, rfl, c1, ?_⟩
  have X4 := Lib.hid (S3.out.below c1.1 S3.out.lt)
  refine planL_last none undef (Z1.setCells (w.heap.size + 1) 0 (Grd R).toList) (by kernel_rfl) (by kernel_rfl) (by kernel_rfl) (.inr ⟨store_op (x := .tmp 4) (y := .tmp 13) (by kernel_rfl) (by kernel_rfl) (by kernel_rfl) (by rw [Grd_size]; exact X4.out.there) (by rw [Grd_size]; exact infoGround) (Grd_one _), rfl⟩) ?_
  refine planL_pure (some 5) (.int .i64 n0) (by decide) (by kernel_rfl) (by kernel_rfl) (by kernel_rfl) (fun _ => (by kernel_rfl)) ?_
  refine planL_end (NoPanic.normal ?_)
  simp only [Act.put, List.setIfInBounds_toArray, List.set_cons_zero, List.set_cons_succ]
  go_wp2
  refine bodyPost_ret (ret_GN rfl rfl rfl X4.out.store.range) rfl ⟨rfl, below_setCells _ (by omega) _ _ _ (HX.out.trans (c1.1.mono HX.out.size))⟩
end Go.Proofs.YtaghnminpfgdcaaGreatDoor
