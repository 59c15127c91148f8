/- MirrorGround: the program's. Condition: the table of math/bits is laid. -/
import Derived.Test.YtljbppladjnadaaDoorMirrorS
import Derived.Test.YtljbppladjnadaaDoorFixed
import Derived.Test.YtljbppladjnadaaDoorSideOf
import Derived.Sort.CutIn
namespace Go.Proofs.YtljbppladjnadaaDoor
open Go.RowKit Go.Shelf
attribute [local go_sem] Oper.semAt_some run_store_float
set_option linter.unusedSimpArgs false

theorem KeepsOthers.of_below' {W W' : World} (h : Below W.heap.size W W') : KeepsOthers W W' := ⟨h.size, fun k _ hk _ => (h.block k (Array.getElem?_eq_some_iff.1 hk).1).trans hk⟩

theorem mirS_no {G H : Gd} {k j n : Nat} (hj : mir G k = j) (hb : G.x.toNat.testBit k = false) (hn : H.x = (n : Int)) : mirS G H k = { H with c := upd H.c j (G.c k), g := upd H.g j (G.g k), h := upd H.h j (G.h k) } := by
  subst hj
  have e : ((H.x.toNat : Nat) : Int) = H.x := by rw [hn, Int.toNat_natCast]
  unfold mirS mvX
  rw [if_neg (by simp [hb]), e]
theorem mv_yes {G H : Gd} {k j n : Nat} (hj : mir G k = j) (hb : G.x.toNat.testBit k = true) (hn : H.x = (n : Int)) (h1 : n < 18446744073709551616) (h2 : j < 64) : bits .or .u64 H.x (IntKind.u64.wrap (2 ^ j)) = ((mvX G H.x.toNat k : Nat) : Int) := by
  rw [hn, or_bit n j h1 h2, Int.toNat_natCast]
  unfold mvX
  rw [if_pos hb, hj]

/-- A bit of a mask, as a test. -/
theorem bit_test (x k : Nat) (hx : x < 18446744073709551616) : (bits .and .u64 ((x : Int) / 2 ^ k) 1 == 1) = x.testBit k := by
  have e : (x : Int) / 2 ^ k = ((x / 2 ^ k : Nat) : Int) := by simp
  have h1 : x / 2 ^ k < 18446744073709551616 := Nat.lt_of_le_of_lt (Nat.div_le_self _ _) hx
  rw [e, show (1 : Int) = ((1 : Nat) : Int) from rfl, bits_and_u64_nat _ 1 h1 (by omega), Nat.and_one_is_mod, Nat.testBit_eq_decide_div_mod_eq]
  have : x / 2 ^ k % 2 = 0 ∨ x / 2 ^ k % 2 = 1 := by omega
  rcases this with h | h <;> simp [h]

theorem isFixed_any (G : Gd) (k : Nat) (hk : k < 64) (p : Nat) (w : World) (hp : GrdAt w p 0 G) (hG : GdOk G) :
    Calls Tryd.prog 65 #[.pointer (some ⟨p, 0, none⟩), .int .i64 k] w fun e w' => e = .returned (.bool (G.x.toNat.testBit k)) ∧ w = w' := by
  have xx := hG.x'
  obtain ⟨x, hx⟩ : ∃ x : Nat, G.x = x := ⟨G.x.toNat, by omega⟩
  have hb := Lib.hid (bit_test x k (by omega))
  have a0 := hp.x
  rw [Nat.zero_add, hx] at a0
  rw [hx, Int.toNat_natCast]
  clear hp hG
  go_enter Tryd.func65, Tryd.ntmps65
  go_wp2
  go_ret
  exact ⟨ret_bool hb.out, rfl⟩

set_option maxRecDepth 100000 in
set_option maxHeartbeats 4000000 in
theorem implMirror_valid (G : Gd) (w : World) (hG : GdOk G) (hT : TabAt w) (hv : validB G = true) :
    Calls Tryd.prog 37 #[.agg (Grd G)] w fun e w' => e = .returned (GN (mirL G (cellL G)) 0) ∧ Below w.heap.size w w' := by
  have hz := (zero_of_info zeroGround).1
  refine (callsIn_wide (n := 6)).1 (callsIn_of_wp_marks Tryd.func37 rfl trivial ?_ rfl)
  simp only [Tryd.ntmps37, List.size_toArray, List.length_cons, List.length_nil, Nat.reduceAdd, Nat.reduceSub, Array.replicate_succ, Array.replicate_zero, List.push_toArray, List.append_toArray, List.nil_append, List.cons_append]
  refine wpIn_wide.2 ?_
  go_upto_region 1 with (fail)
  obtain ⟨W, hW, hs, g1, g2, hB⟩ := gbox2 G zG 31 31 w
  rw [hW]
  clear hW
  have r1 := g1.range
  have G1 := Lib.hid g1
  have G2 := Lib.hid g2
  have HB := Lib.hid hB
  have HG := Lib.hid hG
  have HT := Lib.hid (hT.below hB (tab_lt hT))
  have Hv := Lib.hid hv
  have glt := tab_lt hT
  clear g1 g2 hB hG hT hv
  go_upto_region 3 with (first | (refine wpList_load_mid rfl 31 _ rfl w.heap.size 0 rfl (GrdL G) _ r1 Tryd.underlying31 rfl (by rw [GrdL_length]; exact infoGround) ?_) | (go_at_call 17; have hc := (validGround_any G W HG.out HT.out (tab_lt HT.out)); rw [Hv.out] at hc; refine hc.mono ?_; clear hc; rintro e V ⟨rfl, hb1⟩))
  have z1 := hb1.size
  have P1 := Lib.hid (G1.out.below hb1 (by omega))
  have P2 := Lib.hid (G2.out.below hb1 (by omega))
  have B1 := Lib.hid (HB.out.trans (hb1.mono (by omega)))
  have T1 := Lib.hid (HT.out.below hb1 (tab_lt HT.out))
  have r2 := P1.out.range
  clear r1 hb1 G1 G2 HB HT
  go_upto_region 4 with (first | (refine wpList_load_mid rfl 31 _ rfl w.heap.size 0 rfl (GrdL G) _ r2 Tryd.underlying31 rfl (by rw [GrdL_length]; exact infoGround) ?_) | (refine wpList_store_mid rfl 31 _ _ rfl _ 0 (Grd G) rfl rfl (by rw [Grd_size]; exact new_there _ V) (by rw [Grd_size]; exact infoGround) (Grd_one _) ?_; obtain ⟨X, hX, zX, gX, bX⟩ := stored_box G 31 V; rw [hX]; have hx : V.heap.size < X.heap.size := (by omega); clear hX zX))
  obtain ⟨N, hN⟩ : ∃ N, V.heap.size = N := ⟨_, rfl⟩
  rw [hN] at gX bX hx z1 ⊢
  have PX := Lib.hid (gX.putX (x := 0))
  have PXs := Lib.hid ((P1.out.below (hN ▸ bX) (by rw [hN]; omega)).far (b' := N) (k := 194) (v := .int .u64 0) (by omega))
  have PXr := Lib.hid ((P2.out.below (hN ▸ bX) (by rw [hN]; omega)).far (b' := N) (k := 194) (v := .int .u64 0) (by omega))
  have BX := Lib.hid ((B1.out.trans ((hN ▸ bX : Below V.heap.size V X).mono (by rw [hN]; omega))).setCell (p := ⟨N, 194, none⟩) (by simp; omega) (.int .u64 0))
  have TX := Lib.hid ((T1.out.below (hN ▸ bX : Below V.heap.size V X) (tab_lt T1.out)).below ((Below.refl N _).setCell (p := ⟨N, 194, none⟩) (Nat.le_refl _) (.int .u64 0)) (by have := tab_lt T1.out; omega))
  have b0 := gX.at_some 194 (by omega)
  obtain ⟨u, hu⟩ := Option.isSome_iff_exists.1 b0
  have f0 := gX.free 194 (by omega)
  clear b0 gX bX r2 hz P1 P2 B1 T1
  go_upto_region 5 with (fail)
  obtain ⟨Y, hY⟩ : ∃ Y, X.setCell ⟨N, 194, none⟩ (.int .u64 0) = Y := ⟨_, rfl⟩
  have zY : N < Y.heap.size := by rw [← hY, World.size_setCell]; omega
  rw [hY] at PX PXs PXr BX TX ⊢
  clear hY hu f0 u hx hN
  have m64 := cellsN_lt G
  go_wp2_with (first | (go_at_call 45; refine (cells_valid G Hv.out _ _ PXs.out.at').mono ?_; rintro e w' ⟨rfl, rfl⟩) | (go_at_call 46; refine (bitsIn_any (cellsN G) _).mono ?_; rintro e w' ⟨rfl, rfl⟩))
  obtain ⟨X, hX⟩ : ∃ X, Y.alloc (.cells #[.int .u64 (cellsN G)] 25) = X := ⟨_, rfl⟩
  have hbX : Below Y.heap.size Y X := by rw [← hX]; exact (Below.refl _ _).alloc (Nat.le_refl _) _
  have cM : X.cell? ⟨Y.heap.size, 0, none⟩ = some (.int .u64 (cellsN G)) := by rw [← hX]; exact cell_of_row _ _ 0 _ _ _ (heap_alloc_last Y _)
  have zX : Y.heap.size < X.heap.size := by rw [← hX]; simp
  have Q0 := Lib.hid (PX.out.below hbX zY)
  have Q0s := Lib.hid (PXs.out.below hbX (by omega))
  have Q0r := Lib.hid (PXr.out.below hbX (by omega))
  have D0 := Lib.hid (BX.out.trans (hbX.mono (by omega)))
  have TX0 := TX.out.below hbX (tab_lt TX.out)
  rw [hX]
  clear hX hbX PX PXs PXr BX TX
  refine (wpIn_wide (n := 6)).1 (wp_bits 15 16 5 Y.heap.size N (cellsN G) m64 rfl cM TX0 (by omega) (by omega)
    (fun pre W2 => GBox W2 N (mirL G pre)) (fun _ _ _ => False) (fun s A B h g => h.box g) (fun _ _ _ _ _ h => h) Q0.out ?assign ?body ?done ?stop)
  case assign =>
    intro l x W K hK
    simp only [List.setIfInBounds_toArray, List.set_cons_zero, List.set_cons_succ] at hK ⊢
    gi_wp2
    exact hK
  case body =>
    rintro l pre x W2 hI hB2 hbit hlt
    simp only [List.setIfInBounds_toArray, List.set_cons_zero, List.set_cons_succ]
    have hi : isB G x.1 = true := by rw [cellsN_testBit] at hbit; simpa [hlt] using hbit
    obtain ⟨hm, hmE, hm2, hm3⟩ := mir_lt Hv.out hlt hi
    obtain ⟨v1, v2, v3, v4⟩ := valid_ext Hv.out
    have key : G.wide - 1 - (x.1 : Int) % 8 + 8 * ((x.1 : Int) / 8) = ((mir G x.1 : Nat) : Int) := by omega
    have hmw : (x.1 : Int) % 8 < G.wide := by omega
    obtain ⟨j, hj⟩ : ∃ j, mir G x.1 = j := ⟨_, rfl⟩
    rw [hj] at hm key
    have Key := Lib.hid key
    have HJ := Lib.hid hj
    have HI := Lib.hid hI
    have HS0 := Lib.hid (Q0s.out.below hB2 (by omega))
    have zW := hI.lt
    have HBit := Lib.hid hbit
    have HB2 := Lib.hid hB2
    clear hi key hmE hj hm2 hm3 hI hbit hB2
    refine wpIn_block ?_
    gi_upto_region 8 with (refine ⟨trivial, ?_⟩; gi_at_call 64; refine (callsIn_wide.2 (placeOf_nat x.1 hlt _)).mono ?_; rintro e U1 ⟨rfl, hu1⟩; unfold Plc)
    obtain ⟨U, hU, zU, y0, y1, bU⟩ := plc_box ((x.1 : Int) % 8) ((x.1 : Int) / 8) 67 U1
    rw [hU]
    have z3 := hu1.size
    have k1 := hu1.trans (bU.mono z3)
    have HS1 := HS0.out.below k1 (by omega)
    have aw := HS1.at'.wide
    clear hU
    gi_upto_region 9 with (refine ⟨trivial, ?_⟩; gi_at_call 51; refine (callsIn_wide.2 (number_any (G.wide - 1 - (x.1 : Int) % 8) ((x.1 : Int) / 8) (by omega) (by omega) (by omega) (by omega) _)).mono ?_; rintro e U2 ⟨rfl, hu2⟩)
    rw [Key.out]
    have k2 := k1.trans (hu2.mono (by omega))
    have Pa := Lib.hid (HI.out.below k2 zW)
    have Pas := Lib.hid (HS0.out.below k2 (by omega))
    have Pak := Lib.hid (KeepsOthers.of_below' k2)
    have Pab := Lib.hid (show Below N W2 U2 from k2.mono (by omega))
    clear k1 k2 hu1 hu2 bU y0 y1 aw HS1
    have b0 := Pa.out.at_some (2 + j) (by omega)
    obtain ⟨u, hu⟩ := Option.isSome_iff_exists.1 b0
    have f0 := Pa.out.free (2 + j) (by omega)
    have Qa := Lib.hid (Pa.out.putC hm (x := G.c x.1))
    have Qas := Lib.hid (Pas.out.far (b' := N) (k := 2 + j) (v := .float .f32 (G.c x.1)) (by omega))
    have Qak := Lib.hid (KeepsOthers.trans Pak.out (KeepsOthers.setCell U2 ⟨N, 2 + j, none⟩ (.float .f32 (G.c x.1))))
    have Qab := Lib.hid (Pab.out.setCell (p := ⟨N, 2 + j, none⟩) (Nat.le_refl _) (.float .f32 (G.c x.1)))
    have s0 := Grd_fld Pas.out.at'.c x.1 hlt
    rw [Nat.zero_add] at s0
    clear b0
    gi_upto_region 10 with (fail)
    obtain ⟨Wa, hW⟩ : ∃ W', World.setCell U2 ⟨N, 2 + j, none⟩ (.float .f32 (G.c x.1)) = W' := ⟨_, rfl⟩
    rw [hW] at Qa Qas Qak Qab ⊢
    clear hW hu f0 s0 Pa Pas Pak Pab u
    have b0 := Qa.out.at_some (66 + j) (by omega)
    obtain ⟨u, hu⟩ := Option.isSome_iff_exists.1 b0
    have f0 := Qa.out.free (66 + j) (by omega)
    have Qb := Lib.hid (Qa.out.putG hm (x := G.g x.1))
    have Qbs := Lib.hid (Qas.out.far (b' := N) (k := 66 + j) (v := .float .f32 (G.g x.1)) (by omega))
    have Qbk := Lib.hid (KeepsOthers.trans Qak.out (KeepsOthers.setCell Wa ⟨N, 66 + j, none⟩ (.float .f32 (G.g x.1))))
    have Qbb := Lib.hid (Qab.out.setCell (p := ⟨N, 66 + j, none⟩) (Nat.le_refl _) (.float .f32 (G.g x.1)))
    have s0 := Grd_fld Qas.out.at'.g x.1 hlt
    rw [Nat.zero_add] at s0
    clear b0
    gi_upto_region 11 with (fail)
    obtain ⟨Wb, hW⟩ : ∃ W', World.setCell Wa ⟨N, 66 + j, none⟩ (.float .f32 (G.g x.1)) = W' := ⟨_, rfl⟩
    rw [hW] at Qb Qbs Qbk Qbb ⊢
    clear hW hu f0 s0 Qa Qas Qak Qab u
    have b0 := Qb.out.at_some (130 + j) (by omega)
    obtain ⟨u, hu⟩ := Option.isSome_iff_exists.1 b0
    have f0 := Qb.out.free (130 + j) (by omega)
    have Qc := Lib.hid (Qb.out.putH hm (x := G.h x.1))
    have Qcs := Lib.hid (Qbs.out.far (b' := N) (k := 130 + j) (v := .float .f32 (G.h x.1)) (by omega))
    have Qck := Lib.hid (KeepsOthers.trans Qbk.out (KeepsOthers.setCell Wb ⟨N, 130 + j, none⟩ (.float .f32 (G.h x.1))))
    have Qcb := Lib.hid (Qbb.out.setCell (p := ⟨N, 130 + j, none⟩) (Nat.le_refl _) (.float .f32 (G.h x.1)))
    have s0 := Grd_fld Qbs.out.at'.h x.1 hlt
    rw [Nat.zero_add] at s0
    clear b0
    gi_upto_region 12 with (fail)
    obtain ⟨Wc, hW⟩ : ∃ W', World.setCell Wb ⟨N, 130 + j, none⟩ (.float .f32 (G.h x.1)) = W' := ⟨_, rfl⟩
    rw [hW] at Qc Qcs Qck Qcb ⊢
    clear hW hu f0 s0 Qb Qbs Qbk Qbb u
    obtain ⟨X0, hX1, hX2⟩ := mirL_x G Hv.out (nos pre) (by rintro i hi; obtain ⟨y, _, rfl⟩ := List.mem_map.1 hi; have h1 := mem_bitsL.1 y.2; exact ⟨h1.1, by have h2 := h1.2; rw [cellsN_testBit] at h2; simpa [h1.1] using h2⟩)
    have HX1 := Lib.hid hX1
    clear hX1
    cases hb : G.x.toNat.testBit x.1
    · have Hb := Lib.hid hb
      have R := Lib.hid (mirS_no (H := mirL G (nos pre)) HJ.out hb HX1.out)
      clear hb
      gi_wp2_with (refine ⟨trivial, ?_⟩; gi_at_call 65; have hc := isFixed_any G x.1 hlt _ Wc Qcs.out.at' HG.out; rw [Hb.out] at hc; refine (callsIn_wide.2 hc).mono ?_; clear hc; rintro e w' ⟨rfl, rfl⟩)
      exact ⟨Qck.out, Qcb.out, (by rw [nos_snoc, mirL_snoc, R.out]; exact Qc.out), HB2.out.trans Qcb.out⟩
    · have Hb := Lib.hid hb
      have R := Lib.hid (mirS_eq (H := mirL G (nos pre)) HJ.out (mv_yes (H := mirL G (nos pre)) HJ.out hb HX1.out hX2 hm))
      clear hb
      have a5 := Qc.out.at'.x
      rw [Nat.zero_add] at a5
      have f5 := Qc.out.free 194 (by omega)
      gi_upto_region 13 with (refine ⟨trivial, ?_⟩; gi_at_call 65; have hc := isFixed_any G x.1 hlt _ Wc Qcs.out.at' HG.out; rw [Hb.out] at hc; refine (callsIn_wide.2 hc).mono ?_; clear hc; rintro e w' ⟨rfl, rfl⟩)
      have A5 : ∀ w', Quiet Wc w' → w'.cell? ⟨N, 194, none⟩ = some (.int .u64 (mirL G (nos pre)).x) := fun w' h => (h.cell _).trans a5
      refine wpIn_region_calm (ops' := regOf Tryd.f37 13) [0, 1, 2, 3, 4, 5] [6] (.run 6 .fin) (Quiet Wc) [(0, One (.pointer (some ⟨N, 194, none⟩))), (1, One (.int .u64 (mirL G (nos pre)).x)), (2, One (.int .i64 j)), (3, One (.int .u64 (IntKind.u64.wrap (2 ^ j)))), (4, One (.int .u64 (bits .or .u64 (mirL G (nos pre)).x (IntKind.u64.wrap (2 ^ j))))), (5, One (.pointer (some ⟨N, 194, none⟩)))] (by kernel_rfl) (by kernel_rfl) (by kernel_rfl) (by kernel_rfl) (by kernel_rfl) (by kernel_rfl) (by kernel_rfl) (by kernel_rfl) (by kernel_rfl) rfl ((Quiet.refl _).drewN 1) ?_
      refine calm_pure (some 53) (by kernel_rfl) (by kernel_rfl) (by kernel_rfl) (fun _ => by kernel_rfl) ?_
      refine calm_read (some 54) (by kernel_rfl) (by kernel_rfl) (by kernel_rfl) (fun w' hw' => load_cell (ty := 25) (x := .tmp 53) (b := N) (o := 194) (by kernel_rfl) (by kernel_rfl) Tryd.underlying25 rfl (A5 w' hw')) ?_
      refine calm_pure (some 55) (by kernel_rfl) (by kernel_rfl) (by kernel_rfl) (fun _ => by kernel_rfl) ?_
      refine calm_read (some 56) (by kernel_rfl) (by kernel_rfl) (by kernel_rfl) (fun w' _ => shl_op (x := .const (.int .u64 1)) (y := .tmp 55) (t := 2) (by kernel_rfl) (by kernel_rfl) (by kernel_rfl) hm w') ?_
      refine calm_pure (some 57) (by kernel_rfl) (by kernel_rfl) (by kernel_rfl) (fun _ => by kernel_rfl) ?_
      refine calm_pure (some 58) (by kernel_rfl) (by kernel_rfl) (by kernel_rfl) (fun _ => by kernel_rfl) ?_
      refine calm_end fun w' hw' => plan_do none undef (w'.setCell ⟨N, 194, none⟩ (.int .u64 (bits .or .u64 (mirL G (nos pre)).x (IntKind.u64.wrap (2 ^ j))))) (by kernel_rfl) (by kernel_rfl) (by kernel_rfl) (.inr ⟨store_u64 (x := .tmp 58) (y := .tmp 57) (by kernel_rfl) (by kernel_rfl) (by kernel_rfl) infoU64 (A5 w' hw') (by obtain ⟨n, rfl⟩ := hw'; exact f5), rfl⟩) trivial (plan_end (Clean.normal ?_))
      obtain ⟨n, rfl⟩ := hw'
      have k0 : KeepsOthers Wc (World.drewN Wc n) := ⟨Nat.le_refl _, fun _ _ h _ => h⟩
      have k1 := KeepsOthers.trans Qck.out (KeepsOthers.trans k0 (KeepsOthers.setCell (World.drewN Wc n) ⟨N, 194, none⟩ (.int .u64 (bits .or .u64 (mirL G (nos pre)).x (IntKind.u64.wrap (2 ^ j))))))
      have k2 : Below N W2 ((World.drewN Wc n).setCell ⟨N, 194, none⟩ (.int .u64 (bits .or .u64 (mirL G (nos pre)).x (IntKind.u64.wrap (2 ^ j))))) := (Qcb.out.trans (Quiet.below ⟨n, rfl⟩ _)).setCell (p := ⟨N, 194, none⟩) (Nat.le_refl _) _
      have k3 : GBox ((World.drewN Wc n).setCell ⟨N, 194, none⟩ (.int .u64 (bits .or .u64 (mirL G (nos pre)).x (IntKind.u64.wrap (2 ^ j))))) N (mirL G (nos (pre ++ [x]))) := by
        rw [nos_snoc, mirL_snoc, R.out]
        exact (Qc.out.below (Quiet.below ⟨n, rfl⟩ (N + 1)) (by omega)).putX
      exact ⟨k1, k2, k3, HB2.out.trans k2⟩
  case done =>
    rintro D W2 hD hI hB2 hK
    rw [cellL_bits] at hI
    have rr := hI.range
    have hr0 := Q0r.out.below hB2 (by omega)
    have HR0 := Lib.hid hr0
    have HD0 := Lib.hid (D0.out.trans (hB2.mono (by omega)))
    clear hr0 hI hB2 Q0 Q0s Q0r cM TX0
    go_wp2_with (first | (refine wpList_load_mid rfl 31 _ rfl N 0 rfl (GrdL (mirL G (cellL G))) _ rr Tryd.underlying31 rfl (by rw [GrdL_length]; exact infoGround) ?_) | (refine wpList_store_mid rfl 31 _ _ rfl _ 0 (Grd (mirL G (cellL G))) rfl rfl (by rw [Grd_size]; exact HR0.out.there) (by rw [Grd_size]; exact infoGround) (Grd_one _) ?_))
    have hK2 : (W2.setCells (w.heap.size + 1) 0 (Grd (mirL G (cellL G))).toList).heap[D]? = some (.deferred (some [])) := by rw [heap_setCells_other _ (by omega)]; exact hK
    have gR := HR0.out.store (H := mirL G (cellL G))
    refine ret_marks hK2 (fun W' h => ret_GN rfl rfl rfl (h.box gR).range) (fun W' _ hb => ⟨rfl, ?_⟩)
    exact (below_setCells (B := w.heap.size) (a := w) (w.heap.size + 1) (by omega) (Grd (mirL G (cellL G))).toList 0 W2 HD0.out).trans (hb _ (by omega))
  case stop =>
    rintro D c pre W _ _ h _ _
    exact h.elim

set_option maxRecDepth 100000 in
set_option maxHeartbeats 1000000 in
theorem implMirror_any (G : Gd) (w : World) (hG : GdOk G) (hT : TabAt w) :
    Calls Tryd.prog 37 #[.agg (Grd G)] w fun e w' => e = .returned (GN (mirG G) (mirN G)) ∧ Below w.heap.size w w' := by
  cases hv : validB G
  · have Hv := Lib.hid hv
    have R1 := Lib.hid (show mirG G = zG by simp [mirG, hv])
    have R2 := Lib.hid (show mirN G = 1 by simp [mirN, hv])
    clear hv
    have hz := (zero_of_info zeroGround).1
    go_enter Tryd.func37, Tryd.ntmps37
    go_upto_region 1 with (fail)
    obtain ⟨W, hW, hs, g1, g2, hB⟩ := gbox2 G zG 31 31 w
    rw [hW]
    clear hW
    have r1 := g1.range
    have G2 := Lib.hid g2
    have HB := Lib.hid hB
    have HG := Lib.hid hG
    have HT := Lib.hid (hT.below hB (tab_lt hT))
    clear g1 g2 hB hG hT
    go_wp2_with (first | (refine wpList_load_mid rfl 31 _ rfl w.heap.size 0 rfl (GrdL G) _ r1 Tryd.underlying31 rfl (by rw [GrdL_length]; exact infoGround) ?_) | (go_at_call 17; have hc := (validGround_any G W HG.out HT.out (tab_lt HT.out)); rw [Hv.out] at hc; refine hc.mono ?_; clear hc; rintro e w1 ⟨rfl, hb1⟩; have P2 := Lib.hid (G2.out.below hb1 (by omega))) | (refine wpList_store_mid rfl 31 _ _ rfl _ 0 (Grd zG) rfl rfl (by rw [Grd_size]; exact P2.out.there) (by rw [Grd_size]; exact infoGround) (Grd_one _) ?_))
    refine bodyPost_ret (ret_GN rfl rfl rfl P2.out.store.range) rfl ⟨by rw [R1.out, R2.out], below_setCells _ (by omega) _ _ _ (HB.out.trans (hb1.mono (by omega)))⟩
  · rw [show mirG G = mirL G (cellL G) by simp [mirG, hv], show mirN G = 0 by simp [mirN, hv]]
    exact implMirror_valid G w hG hT hv
end Go.Proofs.YtljbppladjnadaaDoor
