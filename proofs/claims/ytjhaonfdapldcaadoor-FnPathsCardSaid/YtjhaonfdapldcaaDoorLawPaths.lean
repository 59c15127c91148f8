/- The law FnPaths: for every input the call returns true. Condition: the table of math/bits is laid. -/
import Derived.Test.YtjhaonfdapldcaaDoorPam
namespace Go.Proofs.YtjhaonfdapldcaaDoor
open Go Go.RowKit
set_option linter.unusedSimpArgs false
set_option linter.unusedVariables false
attribute [local go_sem] Oper.semAt_some

set_option maxRecDepth 100000 in
set_option maxHeartbeats 4000000 in
theorem fnPaths_far (p q : Option Addr) (n c m d : Nat) (hn : n ≤ maxLen) (hm : m ≤ maxLen) (hl : 3000 < n ∨ 3000 < m) (w : World) :
    Calls Tryd.prog 5 #[.slice p n c, .slice q m d] w fun e w' => e = .returned (.bool true) ∧ Below w.heap.size w w' := by
  have hlg := fun V => a2Long_any p q n m c d hn hm V
  rw [show (decide (3000 < n) || decide (3000 < m)) = true by rcases hl with h | h <;> simp [h]] at hlg
  have HL := Lib.hid hlg
  clear hlg
  go_enter Tryd.func5, Tryd.ntmps5
  go_wp2_with (go_at_call 13; refine (HL.out _).mono ?_; rintro e V0 ⟨rfl, hw⟩; rw [hw]; clear hw)
  go_ret
  exact ⟨rfl, Below.refl _ _⟩

set_option maxRecDepth 100000 in
set_option maxHeartbeats 4000000 in
theorem fnPaths_near (p q : Option Addr) (n c m d : Nat) (hn : n ≤ maxLen) (hm : m ≤ maxLen) (hl : ¬ 3000 < n ∧ ¬ 3000 < m) (w : World) (hp : BytesAt w w.heap.size p n) (hq : BytesAt w w.heap.size q m) (hT : TabAt w) :
    Calls Tryd.prog 5 #[.slice p n c, .slice q m d] w fun e w' => e = .returned (.bool true) ∧ Below w.heap.size w w' := by
  have hlg := fun V => a2Long_any p q n m c d hn hm V
  rw [show (decide (3000 < n) || decide (3000 < m)) = false by simp [hl]] at hlg
  have HL := Lib.hid hlg
  have HP := Lib.hid hp
  have HQ := Lib.hid hq
  have HN := Lib.hid hn
  have HM := Lib.hid hm
  have HT := Lib.hid hT
  clear hlg hp hq hn hm hl hT
  have hz0 := (zero_of_info zeroGround).1
  go_enter Tryd.func5, Tryd.ntmps5
  go_upto_region 4 with (first | (go_at_call 13; refine (HL.out _).mono ?_; rintro e V0 ⟨rfl, hw⟩; rw [hw]; clear hw) | (go_at_call 14; refine (A2Ground_any p n c HN.out _ HP.out).mono ?_; rintro e V1 ⟨⟨G, rfl, hD⟩, hb⟩; have DD := Lib.hid hD; have B1 := Lib.hid hb; clear hD hb) | (refine st_stage 32 rfl ?_; refine wpList_store_mid rfl 32 _ _ rfl V1.heap.size 0 (Grd G) rfl rfl (by rw [Grd_size]; exact new_there _ V1) (by rw [Grd_size]; exact infoGround) (Grd_one _) ?_))
  obtain ⟨U, hU, zU, gU, bU⟩ := stored_box G 32 V1
  rw [hU]
  obtain ⟨N, hN⟩ : ∃ N, V1.heap.size = N := ⟨_, rfl⟩
  have hwN : w.heap.size ≤ N := by have := B1.out.size; omega
  have BU := Lib.hid (B1.out.trans (bU.mono B1.out.size))
  have bU' := bU
  rw [hN] at gU zU ⊢
  have GU := Lib.hid gU
  have TU := Lib.hid (HT.out.below BU.out (tab_lt HT.out))
  have hNU : N < U.heap.size := by omega
  have VX := Lib.hid (valid_ext DD.out.valid)
  have GO := Lib.hid DD.out.ok
  have rU := gU.range
  clear hU gU bU bU' zU hN B1 HL HP HT hz0
  go_upto_region 5 with (first | (refine ld_stage 32 rfl ?_; refine wpList_load_mid rfl 32 _ rfl N 0 rfl (GrdL G) _ rU Tryd.underlying32 rfl (by rw [GrdL_length]; exact infoGround) ?_) | (go_at_call 15; refine (A2Cell_any G VX.out q m d HM.out _ (HQ.out.atG BU.out)).mono ?_; rintro e V2 ⟨⟨k, hk, hkb, rfl⟩, hb⟩; have B2 := Lib.hid hb; clear hb))
  have gV := GU.out.below B2.out hNU
  have r2 := gV.range
  have GV := Lib.hid gV
  have TV := Lib.hid (TU.out.below B2.out (tab_lt TU.out))
  have BV := Lib.hid (BU.out.trans (B2.out.mono BU.out.size))
  have hNV : N < V2.heap.size := by have := B2.out.size; omega
  obtain ⟨L, z, hpt, hwp, hend, hwf, hlen, hz, hzb⟩ := DD.out.way hk hkb
  have WF := Lib.hid hwf
  have HW := Lib.hid hwp
  have HE := Lib.hid hend
  have hk0 := Lib.hid hkb
  have TI := Lib.hid (fun W hT' => implWP_any G (k : Int) W GO.out (by omega) (by omega) hT')
  have TS := Lib.hid (fun W => specWP_any G (k : Int) W GO.out)
  rw [hwp] at TI TS
  obtain ⟨r, hr⟩ : ∃ r, L.length = r + 1 := ⟨L.length - 1, by have := hwf.pos; omega⟩
  simp only [hr] at TI TS
  have HR := Lib.hid hr
  have hr65 : r ≤ 64 := by omega
  clear gV B2 hpt hwp hend hwf hlen hkb TU BU GU rU hr HQ hNU
  go_upto_region 6 with (first | (refine ld_stage 32 rfl ?_; refine wpList_load_mid rfl 32 _ rfl N 0 rfl (GrdL G) _ r2 Tryd.underlying32 rfl (by rw [GrdL_length]; exact infoGround) ?_) | (go_at_call 16; refine (TI.out _ TV.out).mono ?_; rintro e V3 ⟨q1, cap1, rfl, hc, _, hb⟩; have C1 := Lib.hid hc; have B3 := Lib.hid hb; clear hc hb))
  have gV := GV.out.below B3.out hNV
  have r3 := gV.range
  have GV3 := Lib.hid gV
  have TV3 := Lib.hid (TV.out.below B3.out (tab_lt TV.out))
  have BV3 := Lib.hid (BV.out.trans (B3.out.mono BV.out.size))
  have hNV3 : N < V3.heap.size := by have := B3.out.size; omega
  clear gV B3 r2 GV TV BV hNV TI
  go_upto_region 7 with (first | (refine ld_stage 32 rfl ?_; refine wpList_load_mid rfl 32 _ rfl N 0 rfl (GrdL G) _ r3 Tryd.underlying32 rfl (by rw [GrdL_length]; exact infoGround) ?_) | (go_at_call 17; refine (TS.out _).mono ?_; rintro e V4 ⟨q2, cap2, rfl, hc, hb⟩; have C2 := Lib.hid hc; have B4 := Lib.hid hb; clear hc hb))
  have GV4 := Lib.hid (GV3.out.below B4.out hNV3)
  have TV4 := Lib.hid (TV3.out.below B4.out (tab_lt TV3.out))
  have BV4 := Lib.hid (BV3.out.trans (B4.out.mono BV3.out.size))
  have hNV4 : N < V4.heap.size := by have := B4.out.size; omega
  have C14 := Lib.hid (C1.out.keep B4.out)
  obtain ⟨b2, rfl, c0⟩ := C2.out 0 k (by rw [← WF.out.head])
  have hri : ¬ (r : Int) + 1 = 0 := by omega
  have hri2 : ((r : Int) + 1 == 0) = false := by simpa using hri
  have hri3 : (0 : Int) < (r : Int) + 1 := by omega
  clear B4 r3 GV3 TV3 BV3 hNV3 C1 TS
  go_wp2_with (first | (go_at_call 18; refine (A2Same_any _ _ _ _ (r + 1) L HR.out (by omega) _ C14.out C2.out).mono ?_; rintro e V5 ⟨rfl, hb⟩; have c5 := (hb.cell (p := ⟨b2, 0, none⟩) (World.block_lt_of_cell? V4 _ c0)).trans c0; have GV5 := Lib.hid (GV4.out.below hb hNV4); have TV5 := Lib.hid (TV4.out.below hb (tab_lt TV4.out)); have BV5 := Lib.hid (BV4.out.trans (hb.mono BV4.out.size)); have hNV5 : N < V5.heap.size := (by have := hb.size; omega); have C5 := Lib.hid (C2.out.keep hb); clear hb c0))
  clear hri hri2 hri3
  go_loopw [11] (fun i wr => ∃ j : Nat, 1 ≤ j ∧ j ≤ r + 1 ∧ i = .int .i64 (j : Int) ∧ Hid (Quiet V5 wr)) (fun i _ => r + 1 - (intOf i).toNat)
  case atStart => exact ⟨1, by omega, by omega, rfl, Lib.hid (Quiet.refl _)⟩
  case round =>
    obtain ⟨j, hj1, hj, rfl, hQ⟩ := hrel
    by_cases hlt : j < r + 1
    · have hji : (j : Int) < (r : Int) + 1 := by omega
      have hji2 : (j : Int) < ((r + 1 : Nat) : Int) := by omega
      obtain ⟨y, hy⟩ : ∃ y, L[j]? = some y := ⟨_, List.getElem?_eq_getElem (by rw [HR.out]; exact hlt)⟩
      obtain ⟨x, hx⟩ : ∃ x, L[j - 1]? = some x := ⟨_, List.getElem?_eq_getElem (by rw [HR.out]; omega)⟩
      have hf := WF.out.fall (j - 1) x y hx (by rw [show j - 1 + 1 = j by omega]; exact hy)
      have hfb : (FloatKind.f32.format.order (G.h y) (G.h x) == some Ordering.lt) = true := by rw [hf]; rfl
      have hy64 := (WF.out.is y (List.mem_of_getElem? hy)).1
      have hx64 := (WF.out.is x (List.mem_of_getElem? hx)).1
      obtain ⟨g1, e1, cy⟩ := C5.out j y hy
      obtain ⟨g2, e2, cx⟩ := C5.out (j - 1) x hx
      cases e1
      cases e2
      have gh := GV5.out.at'.h
      have ch1 := Grd_fld gh y hy64
      have ch2 := Grd_fld gh x hx64
      rw [Nat.zero_add] at ch1 ch2
      have qy := fun w' (hw' : Quiet wr w') => ((hQ.out.trans hw').cell _).trans cy
      have qx := fun w' (hw' : Quiet wr w') => ((hQ.out.trans hw').cell _).trans cx
      have qh1 := fun w' (hw' : Quiet wr w') => ((hQ.out.trans hw').cell _).trans ch1
      have qh2 := fun w' (hw' : Quiet wr w') => ((hQ.out.trans hw').cell _).trans ch2
      clear hy hx hf gh cy cx ch1 ch2
      go_upto_region 12 with (fail)
      refine wp_region_calm (ops' := regOf Tryd.f5 12) [0, 1, 2, 3, 4, 5, 6, 7, 8, 9, 10, 11, 12, 13, 14, 15, 16] [] .fin (Quiet wr) [(0, One (.slice (some ⟨b2, 0, none⟩) (r + 1) cap2)), (1, One (.int .i64 (j : Int))), (2, One (.pointer (some ⟨b2, j, none⟩))), (3, One (.int .i64 (y : Int))), (4, One (.pointer (some ⟨N, 130, none⟩))), (5, One (.pointer (some ⟨N, 130 + y, none⟩))), (6, One (.float .f32 (G.h y))), (7, One (.slice (some ⟨b2, 0, none⟩) (r + 1) cap2)), (8, One (.int .i64 (j : Int))), (9, One (.int .i64 ((j - 1 : Nat) : Int))), (10, One (.pointer (some ⟨b2, (j - 1), none⟩))), (11, One (.int .i64 (x : Int))), (12, One (.pointer (some ⟨N, 130, none⟩))), (13, One (.pointer (some ⟨N, 130 + x, none⟩))), (14, One (.float .f32 (G.h x))), (15, One (.bool (FloatKind.f32.format.order (G.h y) (G.h x) == some Ordering.lt))), (16, One (.bool (!(FloatKind.f32.format.order (G.h y) (G.h x) == some Ordering.lt))))] (by kernel_rfl) (by kernel_rfl) (by kernel_rfl) (by kernel_rfl) (by kernel_rfl) (by kernel_rfl) (by kernel_rfl) (by kernel_rfl) rfl ((Quiet.refl _).drewN 1) ?_
      refine calm_pure (some 75) (by kernel_rfl) (by kernel_rfl) (by kernel_rfl) (fun _ => by kernel_rfl) ?_
      refine calm_pure (some 76) (by kernel_rfl) (by kernel_rfl) (by kernel_rfl) (fun _ => by kernel_rfl) ?_
      refine calm_pure (some 77) (by kernel_rfl) (by kernel_rfl) (by kernel_rfl) (fun _ => index_i64 (n := r + 1) (c := cap2) (k := j) (x := .tmp 75) (y := .tmp 76) (by kernel_rfl) (by kernel_rfl) (by kernel_rfl) hlt _) ?_
      refine calm_read (some 78) (by kernel_rfl) (by kernel_rfl) (by kernel_rfl) (fun w' hw' => load_cell (ty := 2) (x := .tmp 77) (b := b2) (o := j) (by kernel_rfl) (by kernel_rfl) Tryd.underlying2 rfl (qy w' hw')) ?_
      refine calm_pure (some 79) (by kernel_rfl) (by kernel_rfl) (by kernel_rfl) (fun _ => by kernel_rfl) ?_
      refine calm_pure (some 80) (by kernel_rfl) (by kernel_rfl) (by kernel_rfl) (index_fld (x := .tmp 79) (y := .tmp 78) (o := 130) (by kernel_rfl) (by kernel_rfl) (by kernel_rfl) hy64) ?_
      refine calm_read (some 81) (by kernel_rfl) (by kernel_rfl) (by kernel_rfl) (fun w' hw' => load_cell (ty := 23) (x := .tmp 80) (b := N) (o := 130 + y) (by kernel_rfl) (by kernel_rfl) Tryd.underlying23 rfl (qh1 w' hw')) ?_
      refine calm_pure (some 82) (by kernel_rfl) (by kernel_rfl) (by kernel_rfl) (fun _ => by kernel_rfl) ?_
      refine calm_pure (some 83) (by kernel_rfl) (by kernel_rfl) (by kernel_rfl) (fun _ => by kernel_rfl) ?_
      refine calm_pure (some 84) (by kernel_rfl) (by kernel_rfl) (by kernel_rfl) (fun _ => subB (ty := 3) (tz := 3) (p := .tmp 83) (q := .const (.int .i64 1)) (x := (j : Int)) (y := 1) (z := ((j - 1 : Nat) : Int)) (by kernel_rfl) (by kernel_rfl) (by kernel_rfl) (by omega) (by omega) _) ?_
      refine calm_pure (some 85) (by kernel_rfl) (by kernel_rfl) (by kernel_rfl) (fun _ => index_i64 (n := r + 1) (c := cap2) (k := j - 1) (x := .tmp 82) (y := .tmp 84) (by kernel_rfl) (by kernel_rfl) (by kernel_rfl) (by omega) _) ?_
      refine calm_read (some 86) (by kernel_rfl) (by kernel_rfl) (by kernel_rfl) (fun w' hw' => load_cell (ty := 2) (x := .tmp 85) (b := b2) (o := (j - 1)) (by kernel_rfl) (by kernel_rfl) Tryd.underlying2 rfl (qx w' hw')) ?_
      refine calm_pure (some 87) (by kernel_rfl) (by kernel_rfl) (by kernel_rfl) (fun _ => by kernel_rfl) ?_
      refine calm_pure (some 88) (by kernel_rfl) (by kernel_rfl) (by kernel_rfl) (index_fld (x := .tmp 87) (y := .tmp 86) (o := 130) (by kernel_rfl) (by kernel_rfl) (by kernel_rfl) hx64) ?_
      refine calm_read (some 89) (by kernel_rfl) (by kernel_rfl) (by kernel_rfl) (fun w' hw' => load_cell (ty := 23) (x := .tmp 88) (b := N) (o := 130 + x) (by kernel_rfl) (by kernel_rfl) Tryd.underlying23 rfl (qh2 w' hw')) ?_
      refine calm_pure (some 90) (by kernel_rfl) (by kernel_rfl) (by kernel_rfl) (fun _ => by kernel_rfl) ?_
      refine calm_pure (some 91) (by kernel_rfl) (by kernel_rfl) (by kernel_rfl) (fun _ => by kernel_rfl) ?_
      refine calm_end fun w' hw' => plan_end (Clean.normal ?_)
      have HQ2 := Lib.hid (hQ.out.trans hw')
      clear hw' qy qx qh1 qh2
      simp only [Act.put, List.setIfInBounds_toArray, List.set_cons_zero, List.set_cons_succ]
      rw [hfb]
      simp only [Bool.not_true]
      go_wp2
      go_roundw
      case rel => exact ⟨j + 1, by omega, by omega, by go_num, HQ2⟩
      case measure => simp [intOf]; omega
    · obtain rfl : j = r + 1 := by omega
      have GV6 := Lib.hid (GV5.out.below (hQ.out.below (N + 1)) (by omega))
      have TV6 := Lib.hid (TV5.out.below (hQ.out.below V5.heap.size) (tab_lt TV5.out))
      have BV6 := Lib.hid (BV5.out.trans (hQ.out.below _))
      have hNV6 : N < wr.heap.size := Nat.lt_of_lt_of_le hNV5 (hQ.out.below 0).size
      obtain ⟨gz, ez, cz⟩ := C5.out r z (by have := WF.out.last; rw [HR.out, Nat.add_sub_cancel] at this; exact this)
      cases ez
      have cz := (hQ.out.cell _).trans cz
      clear hQ GV5 TV5 BV5 hNV5 C5 hj hj1 hlt c5 C2 C14 GV4 TV4 BV4 hNV4
      go_upto_region 16 with (fail)
      have ec : ((r + 1 : Nat) : Int) = (r : Int) + 1 := rfl
      rw [ec]
      clear ec
      go_loopw [13] (fun i wr2 => ∃ s : Nat, s ≤ 4 ∧ i = .int .i64 (s : Int) ∧ Hid (Below wr.heap.size wr wr2)) (fun i _ => 4 - (intOf i).toNat)
      case atStart => exact ⟨0, by omega, rfl, Lib.hid (Below.refl _ _)⟩
      case round =>
        obtain ⟨s, hs, rfl, hB7⟩ := hrel
        by_cases hlt : s < 4
        · have hsi : (s : Int) < 4 := by omega
          obtain ⟨f, hfv, hfs⟩ := DD.out.flowV hz hzb hlt
          have hng : (FloatKind.f32.format.order f 0 == some Ordering.gt) = false := by
            have := WF.out.fin s hlt f hfs
            simpa using this
          have TF := Lib.hid (fun W hT' => implFlowFrom_any G (z : Int) (s : Int) W GO.out (by omega) (by omega) hT')
          rw [hfv] at TF
          have r7 := (GV6.out.below hB7.out hNV6).range
          have TV7 := Lib.hid (TV6.out.below hB7.out (tab_lt TV6.out))
          clear hfv hfs
          go_wp2_with (first | (refine ld_stage 32 rfl ?_; refine wpList_load_mid rfl 32 _ rfl N 0 rfl (GrdL G) _ r7 Tryd.underlying32 rfl (by rw [GrdL_length]; exact infoGround) ?_) | (go_at_call 19; refine (TF.out _ TV7.out).mono ?_; rintro e V7 ⟨rfl, hb⟩; have B7 := Lib.hid hb; clear hb))
          have HB8 := Lib.hid (hB7.out.trans (B7.out.mono hB7.out.size))
          go_roundw
          case rel => exact ⟨s + 1, by omega, by go_num, HB8⟩
          case measure => simp [intOf]; omega
        · have es : ((s : Nat) : Int) = 4 := by omega
          rw [es]
          have GV8 := Lib.hid (GV6.out.below hB7.out hNV6)
          have TV8 := Lib.hid (TV6.out.below hB7.out (tab_lt TV6.out))
          have BV8 := Lib.hid (BV6.out.trans (hB7.out.mono BV6.out.size))
          have hNV8 : N < wr.heap.size := Nat.lt_of_lt_of_le hNV6 hB7.out.size
          clear hB7 GV6 TV6 BV6 hNV6 cz hs hlt es
          go_wp2
          go_loopw [16, 17] (fun av iv wr3 => ∃ i : Nat, i ≤ 64 ∧ iv = .int .i64 (i : Int) ∧ av = .int .u64 ((maskL (endL G i) : Nat) : Int) ∧ Hid (Below wr.heap.size wr wr3)) (fun _ iv _ => 64 - (intOf iv).toNat)
          case atStart => exact ⟨0, by omega, rfl, by rw [end_none]; rfl, Lib.hid (Below.refl _ _)⟩
          case round =>
            obtain ⟨i, hi, rfl, rfl, hB9⟩ := hrel
            have r9 := (GV8.out.below hB9.out hNV8).range
            have TV7 := Lib.hid (TV8.out.below hB9.out (tab_lt TV8.out))
            by_cases hlt : i < 64
            · have hii : (i : Int) < 64 := by omega
              cases hib : isB G i
              · have HI := Lib.hid (A2Is_is G i hlt false hib GO.out)
                have ES := Lib.hid (end_skip DD.out hib)
                clear hib
                go_wp2_with (first | (refine ld_stage 32 rfl ?_; refine wpList_load_mid rfl 32 _ rfl N 0 rfl (GrdL G) _ r9 Tryd.underlying32 rfl (by rw [GrdL_length]; exact infoGround) ?_) | (go_at_call 20; refine (HI.out _).mono ?_; rintro e V8 ⟨rfl, hb⟩; have B8 := Lib.hid hb; clear hb))
                have HB10 := Lib.hid (hB9.out.trans (B8.out.mono hB9.out.size))
                go_roundw
                case rel => exact ⟨i + 1, by omega, by go_num, by rw [ES.out], HB10⟩
                case measure => simp [intOf]; omega
              · have HI := Lib.hid (A2Is_is G i hlt true hib GO.out)
                have TBI := Lib.hid (fun W hT' => implBA_any G (i : Int) W GO.out (by omega) (by omega) hT')
                have TBS := Lib.hid (fun W => specBA_any G (i : Int) W GO.out)
                rw [DD.out.basin hlt hib] at TBI TBS
                have hbit := bas_bit (G := G) i k hk hk0.out
                rw [HE.out] at hbit
                have hand := end_and G i
                have hor := Lib.hid (end_or G i)
                have hwk : IntKind.u64.wrap ((k : Nat) : Int) = (k : Int) := by rw [IntKind.wrap_u64]; omega
                have hnn : (0 : Int) ≤ ((maskL (basL G i) : Nat) : Int) / 2 ^ k := Int.ediv_nonneg (Int.natCast_nonneg _) (Int.le_of_lt (Int.pow_pos (by decide)))
                have hki : (k : Int) < 64 := by omega
                generalize maskL (basL G i) = bm at TBI TBS hbit hand hor hnn
                generalize hem : maskL (endL G i) = em at hand hor ⊢
                clear hib hem
                by_cases hiz : z = i
                · rw [decide_eq_true hiz] at hbit
                  have hbit2 : (((bm : Nat) : Int) / 2 ^ k).tmod 2 = 1 := by rw [Int.tmod_eq_emod_of_nonneg hnn]; simpa using hbit
                  subst hiz
                  clear hbit hnn
                  go_upto_region 28 with (first | (refine ld_stage 32 rfl ?_; refine wpList_load_mid rfl 32 _ rfl N 0 rfl (GrdL G) _ r9 Tryd.underlying32 rfl (by rw [GrdL_length]; exact infoGround) ?_) | (refine ld_stage 32 rfl ?_; refine wpList_load_mid rfl 32 _ rfl N 0 rfl (GrdL G) _ r10 Tryd.underlying32 rfl (by rw [GrdL_length]; exact infoGround) ?_) | (refine ld_stage 32 rfl ?_; refine wpList_load_mid rfl 32 _ rfl N 0 rfl (GrdL G) _ r11 Tryd.underlying32 rfl (by rw [GrdL_length]; exact infoGround) ?_) | (go_at_call 20; refine (HI.out _).mono ?_; rintro e V8 ⟨rfl, hb⟩; have B8 := Lib.hid hb; have r10 := ((GV8.out.below hB9.out hNV8).below hb (Nat.lt_of_lt_of_le hNV8 hB9.out.size)).range; have TV9 := Lib.hid (TV7.out.below hb (tab_lt TV7.out)); clear hb) | (go_at_call 21; refine (TBI.out _ TV9.out).mono ?_; rintro e V9 ⟨rfl, hb⟩; have B9 := Lib.hid (B8.out.trans (hb.mono B8.out.size)); have r11 := ((GV8.out.below hB9.out hNV8).below B9.out (Nat.lt_of_lt_of_le hNV8 hB9.out.size)).range; clear hb) | (go_at_call 22; refine (TBS.out _).mono ?_; rintro e V10 ⟨rfl, hb⟩; have B10 := Lib.hid (B9.out.trans (hb.mono B9.out.size)); clear hb))
                  go_upto_region 30 with (fail)
                  try rw [hor.out]
                  go_wp2
                  go_roundw
                  case rel => exact ⟨z + 1, by omega, by go_num, by first | rfl | rw [hor.out], Lib.hid (hB9.out.trans (B10.out.mono hB9.out.size))⟩
                  case measure => simp [intOf]; omega
                · rw [decide_eq_false hiz] at hbit
                  have hbit2 : ¬ (((bm : Nat) : Int) / 2 ^ k).tmod 2 = 1 := by rw [Int.tmod_eq_emod_of_nonneg hnn]; simpa using hbit
                  have hiz2 : ((i : Int) == (z : Int)) = false := by simp; omega
                  have hiz3 : ¬ (i : Int) = z := by omega
                  clear hbit hnn
                  go_upto_region 28 with (first | (refine ld_stage 32 rfl ?_; refine wpList_load_mid rfl 32 _ rfl N 0 rfl (GrdL G) _ r9 Tryd.underlying32 rfl (by rw [GrdL_length]; exact infoGround) ?_) | (refine ld_stage 32 rfl ?_; refine wpList_load_mid rfl 32 _ rfl N 0 rfl (GrdL G) _ r10 Tryd.underlying32 rfl (by rw [GrdL_length]; exact infoGround) ?_) | (refine ld_stage 32 rfl ?_; refine wpList_load_mid rfl 32 _ rfl N 0 rfl (GrdL G) _ r11 Tryd.underlying32 rfl (by rw [GrdL_length]; exact infoGround) ?_) | (go_at_call 20; refine (HI.out _).mono ?_; rintro e V8 ⟨rfl, hb⟩; have B8 := Lib.hid hb; have r10 := ((GV8.out.below hB9.out hNV8).below hb (Nat.lt_of_lt_of_le hNV8 hB9.out.size)).range; have TV9 := Lib.hid (TV7.out.below hb (tab_lt TV7.out)); clear hb) | (go_at_call 21; refine (TBI.out _ TV9.out).mono ?_; rintro e V9 ⟨rfl, hb⟩; have B9 := Lib.hid (B8.out.trans (hb.mono B8.out.size)); have r11 := ((GV8.out.below hB9.out hNV8).below B9.out (Nat.lt_of_lt_of_le hNV8 hB9.out.size)).range; clear hb) | (go_at_call 22; refine (TBS.out _).mono ?_; rintro e V10 ⟨rfl, hb⟩; have B10 := Lib.hid (B9.out.trans (hb.mono B9.out.size)); clear hb))
                  go_upto_region 30 with (fail)
                  try rw [hor.out]
                  go_wp2
                  go_roundw
                  case rel => exact ⟨i + 1, by omega, by go_num, by first | rfl | rw [hor.out], Lib.hid (hB9.out.trans (B10.out.mono hB9.out.size))⟩
                  case measure => simp [intOf]; omega
            · obtain rfl : i = 64 := by omega
              have HEA := end_all DD.out
              have hcv : cellsOfN G = ((cellsN G : Int), 0) := by unfold cellsOfN; rw [if_pos DD.out.valid]
              have TC := Lib.hid (fun W hT' => implCellsOf_any G W GO.out hT')
              rw [hcv] at TC
              rw [HEA]
              clear HEA hcv
              go_wp2_with (first | (refine ld_stage 32 rfl ?_; refine wpList_load_mid rfl 32 _ rfl N 0 rfl (GrdL G) _ r9 Tryd.underlying32 rfl (by rw [GrdL_length]; exact infoGround) ?_) | (go_at_call 23; refine (TC.out _ TV7.out).mono ?_; rintro e V8 ⟨rfl, hb⟩; have B8 := Lib.hid hb; clear hb; unfold UI))
              go_ret
              exact ⟨rfl, BV8.out.trans ((hB9.out.trans (B8.out.mono hB9.out.size)).mono BV8.out.size)⟩
end Go.Proofs.YtjhaonfdapldcaaDoor
