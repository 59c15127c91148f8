/- FirstBelow, of both sides. Conditions: errors.errorType and the table of math/bits are laid (the program's). -/
import Derived.Test.YtaghnminpfgdcaaGreatDoorGl
namespace Go.Proofs.YtaghnminpfgdcaaGreatDoor
open Go Go.RowKit Go.Shelf
attribute [local go_sem] Oper.semAt_some run_store_float
set_option linter.unusedSimpArgs false
set_option linter.unusedVariables false

/-- By how much the head at a watch is less than its level. -/
def fbT (K : Gd) (x : T2) : Nat := (fop .f32 .sub (num .f32 x.2) (num .f32 (K.h x.1.toNat))).getD 0
/-- What FirstBelow says of a ground and a code. -/
def fbR (R : Gd) (n0 : Int) (Lw : List T2) : Int × Nat × Int := if n0 ≠ 0 then (0, 0, n0) else match Lw.findIdx? (lowB R) with
  | some i => (match Lw[i]? with | some x => ((i : Int), fbT R x, 0) | none => (0, 0, 6))
  | none => (0, 0, 6)
def fbV (G : Gd) (Lw : List T2) (L : List P3) : Int × Nat × Int := fbR (gwV G Lw L).1 (gwV G Lw L).2 Lw
theorem fb_code {R : Gd} {n0 : Int} {Lw : List T2} (h : n0 ≠ 0) : fbR R n0 Lw = (0, 0, n0) := by simp [fbR, h]
theorem fb_low {R : Gd} {Lw : List T2} {i : Nat} {x : T2} (hx : Lw[i]? = some x) (hl : lowB R x = true) (hb : ∀ (j : Nat) (y : T2), j < i → Lw[j]? = some y → lowB R y = false) : fbR R 0 Lw = ((i : Int), fbT R x, 0) := by
  have h : Lw.findIdx? (lowB R) = some i := by
    rw [List.findIdx?_eq_some_iff_getElem]
    obtain ⟨h1, rfl⟩ := List.getElem?_eq_some_iff.1 hx
    refine ⟨h1, hl, fun j hj => ?_⟩
    have := hb j _ hj (List.getElem?_eq_getElem (by omega))
    simp [this]
  simp [fbR, h, hx]
theorem fb_none {R : Gd} {Lw : List T2} (hb : ∀ (j : Nat) (y : T2), Lw[j]? = some y → lowB R y = false) : fbR R 0 Lw = (0, 0, 6) := by
  have h : Lw.findIdx? (lowB R) = none := by
    rw [List.findIdx?_eq_none_iff]
    intro x hx
    obtain ⟨j, hj, rfl⟩ := List.getElem_of_mem hx
    exact hb j _ (List.getElem?_eq_getElem hj)
  simp [fbR, h]
theorem low_or (R : Gd) (Lw : List T2) : (∀ (j : Nat) (y : T2), Lw[j]? = some y → lowB R y = false) ∨ ∃ (i : Nat) (x : T2), Lw[i]? = some x ∧ lowB R x = true ∧ ∀ (j : Nat) (y : T2), j < i → Lw[j]? = some y → lowB R y = false := by
  cases h : Lw.findIdx? (lowB R) with
  | none =>
    left
    intro j y hy
    exact (List.findIdx?_eq_none_iff.1 h) y (List.mem_of_getElem? hy)
  | some i =>
    right
    obtain ⟨h1, h2, h3⟩ := List.findIdx?_eq_some_iff_getElem.1 h
    refine ⟨i, _, List.getElem?_eq_getElem h1, h2, fun j y hj hy => ?_⟩
    obtain ⟨h4, rfl⟩ := List.getElem?_eq_some_iff.1 hy
    simpa using h3 j hj
/-- The heads at watches of a settled ground with permits, and their levels, are plain. -/
theorem fbT_is {G : Gd} {Lw : List T2} {L : List P3} (hG : GdOk G) (h0 : (gwV G Lw L).2 = 0) {x : T2} (hx : x ∈ Lw) : ∃ q : Nat, x.1 = (q : Int) ∧ q < 64 ∧ fop .f32 .sub (num .f32 x.2) (num .f32 ((gwV G Lw L).1.h q)) = some (fbT (gwV G Lw L).1 x) ∧ fbT (gwV G Lw L).1 x < 4294967296 := by
  obtain ⟨hv, _, hw, hh⟩ := gwV_good hG h0
  obtain ⟨_, _, _, _, hwt⟩ := prm_is (gwV_prm h0)
  have := hwt x hx
  simp only [wtB, Bool.and_eq_true] at this
  obtain ⟨q, hq, hq64, hi⟩ := inB_cast this.1
  have hiK : isB (gwV G Lw L).1 q = true := by
    unfold isB at hi ⊢
    rw [hw, hh]; exact hi
  obtain ⟨r, hr, _, hr2⟩ := plain_sub this.2 (valid_heads hv hq64 hiK)
  have e : fbT (gwV G Lw L).1 x = r := by
    unfold fbT
    rw [hq]
    simp only [Int.toNat_natCast]
    rw [hr]; rfl
  rw [e]
  exact ⟨q, hq, hq64, hr, hr2⟩
/-- How FirstBelow ends. -/
def FbE (v : Int × Nat × Int) : Value := .tuple #[.int .i64 v.1, .float .f32 v.2.1, .int .i64 v.2.2]
theorem fbE_mk (a : Int) (z : Nat) (n : Int) : FbE (a, z, n) = .tuple #[.int .i64 a, .float .f32 z, .int .i64 n] := rfl

set_option maxRecDepth 100000 in
set_option maxHeartbeats 4000000 in
theorem specFirstBelow_any (G : Gd) (pw : Option Addr) (cw : Nat) (Lw : List T2) (hLw : Lw.length ≤ 1048576) (hOw : ∀ e ∈ Lw, okT2 e) (p : Option Addr) (c : Nat) (L : List P3) (hL : L.length ≤ 1048576) (hO : ∀ e ∈ L, okPQ e) (w : World) (hpw : TsAt w pw Lw) (hp : PsAt w p L) (hG : GdOk G) :
    Calls Tryz.prog 28 #[.agg (OfA ⟨G, pw, Lw.length, cw⟩), .slice p L.length c] w fun e w' => e = .returned (FbE (fbV G Lw L)) ∧ Below w.heap.size w w' := by
  have hz := (zero_of_info zeroGround).1
  obtain ⟨W, hW, hs, b1, hB⟩ := obox1 ⟨G, pw, Lw.length, cw⟩ 41 w
  have T := Lib.hid (show Calls Tryz.prog 14 #[.agg (OfA ⟨G, pw, Lw.length, cw⟩), .slice p L.length c] W fun e w' => e = .returned (.tuple #[.agg (Grd (gwV G Lw L).1), .int .i64 (gwV G Lw L).2]) ∧ Below W.heap.size W w' from specGroundWith_any G pw cw Lw hLw hOw p c L hL hO W (hpw.keep hB) (hp.keep hB) hG)
  have HB := Lib.hid hB
  have B1 := Lib.hid b1
  have PW := Lib.hid (hpw.keep hB)
  have HF := Lib.hid (fun (h0 : (gwV G Lw L).2 = 0) x (hx : x ∈ Lw) => fbT_is hG h0 hx)
  have HL := Lib.hid (fun (h0 : (gwV G Lw L).2 = 0) => wt_cells (prm_is (gwV_prm h0)).2.2.2.2)
  have HLW := Lib.hid hLw
  have HR := Lib.hid (show fbV G Lw L = fbR (gwV G Lw L).1 (gwV G Lw L).2 Lw from rfl)
  obtain ⟨R, n0, hR⟩ : ∃ R n0, gwV G Lw L = (R, n0) := ⟨_, _, rfl⟩
  simp only [hR] at T HF HL HR
  have r1 := b1.range
  obtain ⟨m, hm⟩ : ∃ m, Lw.length = m := ⟨_, rfl⟩
  have HM := Lib.hid hm
  have HBL := Lib.hid (fun (hwt : ∀ e ∈ Lw, ∃ q : Nat, e.1 = (q : Int) ∧ q < 64) b0 B V (h1 : OfBox V b0 ⟨G, pw, Lw.length, cw⟩) (h2 : TsAt V pw Lw) (h3 : GBox V B R) => l07Below_any R G pw cw Lw hLw hwt b0 B V h1 h2 h3)
  rw [hm] at T HBL B1 r1 hW ⊢
  obtain ⟨n, hn⟩ : ∃ n, L.length = n := ⟨_, rfl⟩
  rw [hn] at T ⊢
  have hbw : w.heap.size < W.heap.size := by omega
  clear b1 hp hB hm hn hpw hOw hO hR hL hLw hG hs
  go_enter Tryz.func28, Tryz.ntmps28
  go_upto_region 1 with (fail)
  try rw [hW]
  clear hW
  obtain ⟨b0, hb0⟩ : ∃ b0, w.heap.size = b0 := ⟨_, rfl⟩
  simp only [hb0] at r1 B1 hbw ⊢
  have HB0 := Lib.hid hb0
  go_upto_region 2 with (first | (refine ld_stage 41 rfl ?_; refine wpList_load_mid rfl 41 _ rfl b0 0 rfl (OfL ⟨G, pw, m, cw⟩) _ r1 Tryz.underlying41 rfl (by rw [OfL_length]; exact infoOffice) ?_) | (go_at_call 14; refine T.out.mono ?_; rintro e V ⟨rfl, hV⟩) | (refine st_stage 36 rfl ?_; refine wpList_store_mid rfl 36 _ _ rfl _ 0 (Grd R) rfl rfl (by rw [Grd_size]; exact new_there _ V) (by rw [Grd_size]; exact infoGround) (Grd_one _) ?_; obtain ⟨X, hX, zX, gX, bX⟩ := stored_box R 36 V; rw [hX]; clear hX))
  have X1 := Lib.hid (B1.out.below (hV.trans (bX.mono hV.size)) hbw)
  have XW := Lib.hid (PW.out.keep (hV.trans (bX.mono hV.size)))
  have HX := Lib.hid (HB.out.trans ((hV.trans (bX.mono hV.size)).mono HB.out.size))
  have GX := Lib.hid gX
  obtain ⟨B, hB2⟩ : ∃ B, V.heap.size = B := ⟨_, rfl⟩
  rw [hB2] at GX ⊢
  clear hV bX gX zX hB2 hz r1 T PW B1 HB
  by_cases h0 : n0 = 0
  · subst h0
    rcases low_or R Lw with hn | ⟨k, x, hx, hl, hlo⟩
    · have HI := Lib.hid (lowI_none hn)
      have HR2 := Lib.hid (fb_none hn)
      have TB := Lib.hid (HBL.out (HL.out rfl) b0 B X X1.out XW.out GX.out)
      rw [HI.out] at TB
      clear hn
      go_wp2_with (go_at_call 60; refine TB.out.mono ?_; rintro e V3 ⟨rfl, hV⟩; have HV := Lib.hid (HX.out.trans (hV.mono HX.out.size)); clear hV)
      go_ret3
      exact ⟨by rw [HR.out, HR2.out]; rfl, HV.out⟩
    · have TB := Lib.hid (HBL.out (HL.out rfl) b0 B X X1.out XW.out GX.out)
      have HI := Lib.hid (lowI_at hx hl hlo)
      have HR2 := Lib.hid (fb_low hx hl hlo)
      rw [HI.out] at TB
      obtain ⟨q, hq, hq64, ht, _⟩ := HF.out rfl x (List.mem_of_getElem? hx)
      have hlt : k < m := by rw [← HM.out]; exact (List.getElem?_eq_some_iff.1 hx).1
      have hxo := Lib.hid hx
      obtain ⟨t, htt⟩ : ∃ t, fbT R x = t := ⟨_, rfl⟩
      rw [htt] at ht HR2
      obtain ⟨x, l⟩ := x
      obtain rfl : x = (q : Int) := hq
      clear hx hl hlo htt
      go_upto_region 7 with (go_at_call 60; refine TB.out.mono ?_; rintro e V3 ⟨rfl, hV⟩; have HV := Lib.hid (HX.out.trans (hV.mono HX.out.size)); have Y1 := Lib.hid (X1.out.below hV X1.out.lt); have YW := Lib.hid (XW.out.keep hV); have GY := Lib.hid (GX.out.below hV GX.out.lt); clear hV)
      have cs := Y1.out.s
      obtain ⟨b, o, rfl, hr⟩ := YW.out k _ hxo.out
      have c0 : V3.cell? ⟨b, o + k * 2, none⟩ = some (.int .i8 (q : Int)) := hr 0 _ rfl
      have c1 : V3.cell? ⟨b, o + k * 2 + 1, none⟩ = some (.float .f32 l) := hr 1 _ rfl
      have hh := GY.out.at'.h
      rw [Nat.zero_add] at hh
      have cK := Grd_fld hh q hq64
      clear hr hh
      refine wp_region_calm (ops' := regOf Tryz.f28 7) [0, 1, 2, 3, 4, 5, 6, 7, 8, 9, 10, 11, 12, 13, 14, 15, 16, 17, 18, 19] [] .fin (Quiet V3) [(0, One (.int .i64 (k : Int))), (1, One (.pointer (some ⟨b0, 195, none⟩))), (2, One (.slice (some ⟨b, o, none⟩) m cw)), (3, One (.int .i64 (k : Int))), (4, One (.pointer (some ⟨b, o + k * 2, none⟩))), (5, One (.pointer (some ⟨b, o + k * 2 + 1, none⟩))), (6, One (.float .f32 l)), (7, One (.pointer (some ⟨b0, 195, none⟩))), (8, One (.slice (some ⟨b, o, none⟩) m cw)), (9, One (.int .i64 (k : Int))), (10, One (.pointer (some ⟨b, o + k * 2, none⟩))), (11, One (.pointer (some ⟨b, o + k * 2, none⟩))), (12, One (.int .i8 (q : Int))), (13, One (.pointer (some ⟨B, 130, none⟩))), (14, One (.pointer (some ⟨B, 130 + q, none⟩))), (15, One (.float .f32 (R.h q))), (16, One (.float .f32 t)), (17, One (.int .i64 (k : Int))), (18, One (.float .f32 t)), (19, One (.int .i64 0))] (by kernel_rfl) (by kernel_rfl) (by kernel_rfl) (by kernel_rfl) (by kernel_rfl) (by kernel_rfl) (by kernel_rfl) (by kernel_rfl) rfl ((Quiet.refl _).drewN 1) ?_
      refine calm_pure (some 22) (by kernel_rfl) (by kernel_rfl) (by kernel_rfl) (fun _ => by kernel_rfl) ?_
      refine calm_pure (some 23) (by kernel_rfl) (by kernel_rfl) (by kernel_rfl) (fun _ => by kernel_rfl) ?_
      refine calm_read (some 24) (by kernel_rfl) (by kernel_rfl) (by kernel_rfl) (fun w' hw' => load_cell (ty := 39) (x := .tmp 23) (b := b0) (o := 195) (by kernel_rfl) (by kernel_rfl) Tryz.underlying39 rfl (kq cs w' hw')) ?_
      refine calm_pure (some 25) (by kernel_rfl) (by kernel_rfl) (by kernel_rfl) (fun _ => by kernel_rfl) ?_
      refine calm_pure (some 26) (by kernel_rfl) (by kernel_rfl) (by kernel_rfl) (fun _ => index_wt (T := 39) (n := m) (c := cw) (x := .tmp 24) (y := .tmp 25) (by kernel_rfl) (.inl rfl) (by kernel_rfl) (by kernel_rfl) hlt _) ?_
      refine calm_pure (some 27) (by kernel_rfl) (by kernel_rfl) (by kernel_rfl) (fun _ => by kernel_rfl) ?_
      refine calm_read (some 28) (by kernel_rfl) (by kernel_rfl) (by kernel_rfl) (fun w' hw' => load_cell (ty := 23) (x := .tmp 27) (b := b) (o := o + k * 2 + 1) (by kernel_rfl) (by kernel_rfl) Tryz.underlying23 rfl (kq c1 w' hw')) ?_
      refine calm_pure (some 29) (by kernel_rfl) (by kernel_rfl) (by kernel_rfl) (fun _ => by kernel_rfl) ?_
      refine calm_read (some 30) (by kernel_rfl) (by kernel_rfl) (by kernel_rfl) (fun w' hw' => load_cell (ty := 39) (x := .tmp 29) (b := b0) (o := 195) (by kernel_rfl) (by kernel_rfl) Tryz.underlying39 rfl (kq cs w' hw')) ?_
      refine calm_pure (some 31) (by kernel_rfl) (by kernel_rfl) (by kernel_rfl) (fun _ => by kernel_rfl) ?_
      refine calm_pure (some 32) (by kernel_rfl) (by kernel_rfl) (by kernel_rfl) (fun _ => index_wt (T := 39) (n := m) (c := cw) (x := .tmp 30) (y := .tmp 31) (by kernel_rfl) (.inl rfl) (by kernel_rfl) (by kernel_rfl) hlt _) ?_
      refine calm_pure (some 33) (by kernel_rfl) (by kernel_rfl) (by kernel_rfl) (fun _ => by kernel_rfl) ?_
      refine calm_read (some 34) (by kernel_rfl) (by kernel_rfl) (by kernel_rfl) (fun w' hw' => load_cell (ty := 22) (x := .tmp 33) (b := b) (o := o + k * 2) (by kernel_rfl) (by kernel_rfl) Tryz.underlying22 rfl (kq c0 w' hw')) ?_
      refine calm_pure (some 35) (by kernel_rfl) (by kernel_rfl) (by kernel_rfl) (fun _ => by kernel_rfl) ?_
      refine calm_pure (some 36) (by kernel_rfl) (by kernel_rfl) (by kernel_rfl) (fun _ => index_fld8 (x := .tmp 35) (y := .tmp 34) (o := 130) (by kernel_rfl) (by kernel_rfl) (by kernel_rfl) hq64 _) ?_
      refine calm_read (some 37) (by kernel_rfl) (by kernel_rfl) (by kernel_rfl) (fun w' hw' => load_cell (ty := 23) (x := .tmp 36) (b := B) (o := 130 + q) (by kernel_rfl) (by kernel_rfl) Tryz.underlying23 rfl (kq cK w' hw')) ?_
      refine calm_pure (some 38) (by kernel_rfl) (by kernel_rfl) (by kernel_rfl) (fun _ => sub_op (ty := 23) (tz := 23) (p := .tmp 28) (q := .tmp 37) (by kernel_rfl) (by kernel_rfl) (by kernel_rfl) ht _) ?_
      refine calm_pure (some 4) (by kernel_rfl) (by kernel_rfl) (by kernel_rfl) (fun _ => by kernel_rfl) ?_
      refine calm_pure (some 5) (by kernel_rfl) (by kernel_rfl) (by kernel_rfl) (fun _ => by kernel_rfl) ?_
      refine calm_pure (some 6) (by kernel_rfl) (by kernel_rfl) (by kernel_rfl) (fun _ => by kernel_rfl) ?_

      refine calm_end fun V7 hV7 => plan_end (Clean.normal ?_)
      simp only [Act.put, List.setIfInBounds_toArray, List.set_cons_zero, List.set_cons_succ]
      have EB := Lib.hid (HV.out.trans (hV7.below _))
      clear c0 c1 cK hV7 cs
      go_wp2
      go_ret3
      exact ⟨by rw [HR.out, HR2.out]; rfl, EB.out⟩
  · have HR2 := Lib.hid (fb_code (R := R) (Lw := Lw) h0)
    have hne : (n0 == 0) = false := by simp [h0]
    go_wp2
    go_ret3
    exact ⟨by rw [HR.out, HR2.out]; rfl, HX.out⟩
theorem low_box (t : TypeId) (w : World) (hE : ErrT w) : ∃ W, w.alloc (.cells #[.int .i64 0, .float .f32 0] t) = W ∧ W.heap.size = w.heap.size + 1 ∧ W.there w.heap.size 0 2 ∧ ErrT W ∧ Below w.heap.size w W :=
  ⟨_, rfl, by simp, there_row (C := #[.int .i64 0, .float .f32 0]) (heap_alloc_last w _) rfl, hE.below ((Below.refl _ _).alloc (Nat.le_refl _) _) (errT_lt hE), (Below.refl _ _).alloc (Nat.le_refl _) _⟩
set_option maxRecDepth 100000 in
set_option maxHeartbeats 4000000 in
theorem implFirstBelow_any (G : Gd) (pw : Option Addr) (cw : Nat) (Lw : List T2) (hLw : Lw.length ≤ 1048576) (hOw : ∀ e ∈ Lw, okT2 e) (p : Option Addr) (c : Nat) (L : List P3) (hL : L.length ≤ 1048576) (hO : ∀ e ∈ L, okPQ e) (w : World) (hpw : TsAt w pw Lw) (hp : PsAt w p L) (hG : GdOk G) (hT : TabAt w) (hE : ErrT w) :
    Calls Tryz.prog 29 #[.agg (OfA ⟨G, pw, Lw.length, cw⟩), .slice p L.length c] w fun e w' => e = .returned (FbE (fbV G Lw L)) ∧ Below w.heap.size w w' := by
  obtain ⟨W, hW, hs, b1, hB⟩ := obox1 ⟨G, pw, Lw.length, cw⟩ 41 w
  have T := Lib.hid (refusalOf_any G pw cw Lw hLw hOw p c L hL hO w.heap.size W b1 (hpw.keep hB) (hp.keep hB) hG (hT.below hB (tab_lt hT)))
  have HB := Lib.hid hB
  have HE := Lib.hid (hE.below hB (errT_lt hE))
  have HF := Lib.hid (fun (h0 : (gwV G Lw L).2 = 0) x (hx : x ∈ Lw) => fbT_is hG h0 hx)
  have HR := Lib.hid (show fbV G Lw L = fbR (gwV G Lw L).1 (gwV G Lw L).2 Lw from rfl)
  obtain ⟨R, n0, hR⟩ : ∃ R n0, gwV G Lw L = (R, n0) := ⟨_, _, rfl⟩
  simp only [hR] at T HF HR
  obtain ⟨m, hm⟩ : ∃ m, Lw.length = m := ⟨_, rfl⟩
  rw [hm] at hW ⊢
  obtain ⟨n, hn⟩ : ∃ n, L.length = n := ⟨_, rfl⟩
  rw [hn] at T ⊢
  clear b1 hp hB hm hn hpw hOw hO hR hL hLw hG hs hT hE
  go_enter Tryz.func29, Tryz.ntmps29
  go_upto_region 1 with (fail)
  try rw [hW]
  clear hW
  go_wp2_with (go_at_call 61; fail)
  refine T.out.mono ?_
  rintro e V ⟨hb, ⟨hne, rfl⟩ | ⟨h0, hn, rfl⟩ | ⟨h0, i, x, z, hx, hl, hlo, rfl, hz⟩⟩
  · have HC := Lib.hid (groundCode_err n0 V (HE.out.below hb (errT_lt HE.out)))
    have HV := Lib.hid (HB.out.trans (hb.mono HB.out.size))
    have HR2 := Lib.hid (fb_code (R := R) (Lw := Lw) hne)
    have hne' : (n0 == 0) = false := by simpa using hne
    obtain ⟨eV, heV⟩ : ∃ eV, errG n0 = eV := ⟨_, rfl⟩
    rw [heV] at HC ⊢
    clear hb heV
    go_wp2_with (go_at_call 54; refine HC.out.mono ?_; rintro e V2 ⟨rfl, hV⟩; have HV2 := Lib.hid (HV.out.trans (hV.mono HV.out.size)); clear hV)
    go_ret3
    exact ⟨by rw [HR.out, HR2.out]; rfl, HV2.out⟩
  · simp only at h0
    subst h0
    have HC := Lib.hid (show Calls Tryz.prog 54 #[.nilIface] V _ from groundCode_err 0 V (HE.out.below hb (errT_lt HE.out)))
    have HV := Lib.hid (HB.out.trans (hb.mono HB.out.size))
    have HR2 := Lib.hid (fb_none hn)
    have HEV := Lib.hid (HE.out.below hb (errT_lt HE.out))
    clear hb hn
    go_upto_region 6 with (go_at_call 54; refine HC.out.mono ?_; rintro e V2 ⟨rfl, hV⟩; have HV2 := Lib.hid (HV.out.trans (hV.mono HV.out.size)); have HE2 := Lib.hid (HEV.out.below hV (errT_lt HEV.out)); clear hV)
    obtain ⟨X, hX, zX, tX, eX, bX⟩ := low_box 102 V2 HE2.out
    rw [hX]
    clear hX
    have HX := Lib.hid (HV2.out.trans (bX.mono HV2.out.size))
    clear bX tX eX
    go_wp2_with (go_at_call 62; refine (as_nil _ _).mono ?_; rintro e V3 ⟨rfl, rfl⟩)
    go_ret3
    exact ⟨by rw [HR.out, HR2.out]; rfl, HX.out⟩
  · simp only at h0
    subst h0
    obtain ⟨q, hq, hq64, ht, _⟩ := HF.out rfl x (List.mem_of_getElem? hx)
    have hzt : z = fbT R x := by
      rw [hq] at hz
      simp only [Int.toNat_natCast] at hz
      rw [ht] at hz
      exact (num_eq_some hz).1
    have HC := Lib.hid (groundCode_low i z V (HE.out.below hb (errT_lt HE.out)))
    have HV := Lib.hid (HB.out.trans (hb.mono HB.out.size))
    have HR2 := Lib.hid (fb_low hx hl hlo)
    rw [← hzt] at HR2
    have HEV := Lib.hid (HE.out.below hb (errT_lt HE.out))
    have HA := Lib.hid (fun tb V (h1 : ErrT V) (h2 : V.there tb 0 2) (h3 : 0 < tb) (h4 : tb < V.heap.size) => (show Calls Tryz.prog 62 #[tooL i z, .iface 104 (.pointer (some ⟨tb, 0, none⟩))] V _ from as_hitL (i : Int) z tb V h1 h2 h3 h4))
    obtain ⟨eV, heV⟩ : ∃ eV, tooL i z = eV := ⟨_, rfl⟩
    simp only [heV] at HC HA ⊢
    clear hb hx hl hlo hz ht hq heV HF
    go_upto_region 6 with (go_at_call 54; refine HC.out.mono ?_; rintro e V2 ⟨rfl, hV⟩; have HV2 := Lib.hid (HV.out.trans (hV.mono HV.out.size)); have HE2 := Lib.hid (HEV.out.below hV (errT_lt HEV.out)); clear hV)
    obtain ⟨X, hX, zX, tX, eX, bX⟩ := low_box 102 V2 HE2.out
    rw [hX]
    clear hX
    have HX := Lib.hid (HV2.out.trans (bX.mono HV2.out.size))
    have TA := Lib.hid (HA.out V2.heap.size X eX tX (errT_lt HE2.out) (by omega))
    have hl2 : w.heap.size ≤ V2.heap.size := HV2.out.size
    obtain ⟨tb, htb⟩ : ∃ tb, V2.heap.size = tb := ⟨_, rfl⟩
    simp only [htb] at TA hl2 ⊢
    clear bX tX eX zX htb
    go_upto_region 8 with (go_at_call 62; refine TA.out.mono ?_; rintro e V3 ⟨rfl, hb3, hr3⟩)
    have c0 : V3.cell? ⟨tb, 0, none⟩ = some (.int .i64 (i : Int)) := hr3 0 _ rfl
    have c1 : V3.cell? ⟨tb, 1, none⟩ = some (.float .f32 z) := hr3 1 _ rfl
    have H3 := Lib.hid (HX.out.trans (hb3.mono hl2))
    clear hb3 hr3
    refine wp_region_calm (ops' := regOf Tryz.f29 8) [0, 1, 2, 3, 4, 5, 6] [] .fin (Quiet V3) [(0, One (.pointer (some ⟨tb, 0, none⟩))), (1, One (.int .i64 (i : Int))), (2, One (.pointer (some ⟨tb, 1, none⟩))), (3, One (.float .f32 z)), (4, One (.int .i64 (i : Int))), (5, One (.float .f32 z)), (6, One (.int .i64 0))] (by kernel_rfl) (by kernel_rfl) (by kernel_rfl) (by kernel_rfl) (by kernel_rfl) (by kernel_rfl) (by kernel_rfl) (by kernel_rfl) rfl ((Quiet.refl _).drewN 1) ?_
    refine calm_pure (some 22) (by kernel_rfl) (by kernel_rfl) (by kernel_rfl) (fun _ => by kernel_rfl) ?_
    refine calm_read (some 23) (by kernel_rfl) (by kernel_rfl) (by kernel_rfl) (fun w' hw' => load_cell (ty := 2) (x := .tmp 22) (b := tb) (o := 0) (by kernel_rfl) (by kernel_rfl) Tryz.underlying2 rfl (kq c0 w' hw')) ?_
    refine calm_pure (some 24) (by kernel_rfl) (by kernel_rfl) (by kernel_rfl) (fun _ => by kernel_rfl) ?_
    refine calm_read (some 25) (by kernel_rfl) (by kernel_rfl) (by kernel_rfl) (fun w' hw' => load_cell (ty := 23) (x := .tmp 24) (b := tb) (o := 1) (by kernel_rfl) (by kernel_rfl) Tryz.underlying23 rfl (kq c1 w' hw')) ?_
    refine calm_pure (some 4) (by kernel_rfl) (by kernel_rfl) (by kernel_rfl) (fun _ => by kernel_rfl) ?_
    refine calm_pure (some 5) (by kernel_rfl) (by kernel_rfl) (by kernel_rfl) (fun _ => by kernel_rfl) ?_
    refine calm_pure (some 6) (by kernel_rfl) (by kernel_rfl) (by kernel_rfl) (fun _ => by kernel_rfl) ?_

    refine calm_end fun V7 hV7 => plan_end (Clean.normal ?_)
    simp only [Act.put, List.setIfInBounds_toArray, List.set_cons_zero, List.set_cons_succ]
    have EB := Lib.hid (H3.out.trans (hV7.below _))
    clear c0 c1 hV7
    go_wp2
    go_ret3
    exact ⟨by rw [HR.out, HR2.out]; rfl, EB.out⟩
end Go.Proofs.YtaghnminpfgdcaaGreatDoor
