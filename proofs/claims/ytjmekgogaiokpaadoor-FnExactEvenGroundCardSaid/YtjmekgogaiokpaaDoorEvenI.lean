/- EvenGround: the program's. Condition: the table of math/bits is laid. -/
import Derived.Test.YtjmekgogaiokpaaDoorEvenS
import Derived.Test.YtjmekgogaiokpaaDoorNums
namespace Go.Proofs.YtjmekgogaiokpaaDoor
open Go.RowKit Go.Shelf
attribute [local go_sem] Oper.semAt_some run_store_float
set_option linter.unusedSimpArgs false

theorem even_box (c hd : Nat) (t u v : TypeId) (w : World) : ∃ W, ((w.alloc (.cells #[.float .f32 c] t)).alloc (.cells #[.float .f32 hd] u)).alloc (.cells (Grd zG) v) = W ∧ W.heap.size = w.heap.size + 1 + 1 + 1 ∧
    W.cell? ⟨w.heap.size, 0, none⟩ = some (.float .f32 c) ∧ W.cell? ⟨w.heap.size + 1, 0, none⟩ = some (.float .f32 hd) ∧ GBox W (w.heap.size + 1 + 1) zG ∧ Below w.heap.size w W := by
  obtain ⟨V, hV, z1, r1, r2, b1⟩ := two_boxes #[.float .f32 c] #[.float .f32 hd] t u w
  obtain ⟨W, hW, z2, g, b2⟩ := gbox1 zG v V
  rw [hV, hW]
  refine ⟨W, rfl, by omega, (b2.cell (p := ⟨w.heap.size, 0, none⟩) (by simp; omega)).trans (r1 0 _ rfl), (b2.cell (p := ⟨w.heap.size + 1, 0, none⟩) (by simp; omega)).trans (r2 0 _ rfl), by rw [← z1]; exact g, b1.trans (b2.mono (by omega))⟩

/-- A load that is wanted, of one cell: what the walk needs. -/
theorem cells_ext (X : Gd) (W H : Int) (hx : X.wide = W ∧ X.high = H) (w2 : 2 ≤ W) (w8 : W ≤ 8) (h2 : 2 ≤ H) (h8 : H ≤ 8) (p : Nat) (w : World) (hp : GrdAt w p 0 X) :
    Calls Tryd.prog 50 #[.pointer (some ⟨p, 0, none⟩)] w fun e w' => e = .returned (.int .u64 (cellsN X)) ∧ w = w' :=
  cells_any X W.toNat H.toNat (by rw [hx.1]; omega) (by rw [hx.2]; omega) (by omega) (by omega) p w hp

set_option maxRecDepth 100000 in
set_option maxHeartbeats 2000000 in
theorem implEven_bad (W H : Int) (c hd : Nat) (w : World) (hb : (numOk c hd && (extN W && extN H)) = false) :
    Calls Tryd.prog 20 #[.int .i64 W, .int .i64 H, .float .f32 c, .float .f32 hd] w fun e w' => e = .returned (GN (evG W H c hd) (evN W H c hd)) ∧ Below w.heap.size w w' := by
  have hz := (zero_of_info zeroGround).1
  go_enter Tryd.func20, Tryd.ntmps20
  go_upto_region 1 with (fail)
  obtain ⟨V, hV, hs, c0, c1, g1, hB⟩ := even_box c hd 23 23 31 w
  rw [hV]
  clear hV
  have G1 := Lib.hid g1
  have HB := Lib.hid hB
  have Hs := Lib.hid hs
  clear g1 hB hs
  cases hn : numOk c hd
  · have R1 := Lib.hid (show evN W H c hd = 1 by simp [evN, hn])
    have R2 := Lib.hid (show evG W H c hd = zG by simp [evG, evN, hn])
    clear hb
    unfold numOk at hn
    rw [← Bool.and_assoc, ← amtB_eq] at hn
    cases pc : amtB c
    · have Pc := Lib.hid pc
      clear hn pc
      go_wp2_with (first | (go_at_call 52; refine (isAmount_is c false Pc.out _).mono ?_; rintro e w' ⟨rfl, rfl⟩) | (refine wpList_store_mid rfl 31 _ _ rfl _ 0 (Grd zG) rfl rfl (by rw [Grd_size]; exact G1.out.there) (by rw [Grd_size]; exact infoGround) (Grd_one _) ?_))
      refine bodyPost_ret (ret_GN rfl rfl rfl G1.out.store.range) rfl ⟨by rw [R1.out, R2.out], below_setCells _ (by omega) _ _ _ HB.out⟩
    · have ph : plainB hd = false := by simpa [pc] using hn
      have Pc := Lib.hid pc
      have Ph := Lib.hid ph
      clear hn pc ph
      go_wp2_with (first | (go_at_call 52; refine (isAmount_is c true Pc.out _).mono ?_; rintro e w' ⟨rfl, rfl⟩) | (go_at_call 53; refine (isPlain_is hd false Ph.out _).mono ?_; rintro e w' ⟨rfl, rfl⟩) | (refine wpList_store_mid rfl 31 _ _ rfl _ 0 (Grd zG) rfl rfl (by rw [Grd_size]; exact G1.out.there) (by rw [Grd_size]; exact infoGround) (Grd_one _) ?_))
      refine bodyPost_ret (ret_GN rfl rfl rfl G1.out.store.range) rfl ⟨by rw [R1.out, R2.out], below_setCells _ (by omega) _ _ _ HB.out⟩
  · have hn' : amtB c = true ∧ plainB hd = true := by
      unfold numOk at hn
      rw [← Bool.and_assoc, ← amtB_eq] at hn
      simpa using hn
    obtain ⟨pc, ph⟩ := hn'
    have Pc := Lib.hid pc
    have Ph := Lib.hid ph
    clear pc ph
    cases eW : extN W
    · have R1 := Lib.hid (show evN W H c hd = 2 by simp [evN, hn, eW])
      have R2 := Lib.hid (show evG W H c hd = zG by simp [evG, evN, hn, eW])
      have EW := Lib.hid eW
      clear hn eW hb
      go_wp2_with (first | (go_at_call 52; refine (isAmount_is c true Pc.out _).mono ?_; rintro e w' ⟨rfl, rfl⟩) | (go_at_call 53; refine (isPlain_is hd true Ph.out _).mono ?_; rintro e w' ⟨rfl, rfl⟩) | (go_at_call 49; refine (isExtent_is W false EW.out _).mono ?_; rintro e w' ⟨rfl, rfl⟩) | (refine wpList_store_mid rfl 31 _ _ rfl _ 0 (Grd zG) rfl rfl (by rw [Grd_size]; exact G1.out.there) (by rw [Grd_size]; exact infoGround) (Grd_one _) ?_))
      refine bodyPost_ret (ret_GN rfl rfl rfl G1.out.store.range) rfl ⟨by rw [R1.out, R2.out], below_setCells _ (by omega) _ _ _ HB.out⟩
    · have eH : extN H = false := by simpa [hn, eW] using hb
      have R1 := Lib.hid (show evN W H c hd = 2 by simp [evN, hn, eH])
      have R2 := Lib.hid (show evG W H c hd = zG by simp [evG, evN, hn, eH])
      have EW := Lib.hid eW
      have EH := Lib.hid eH
      have tk2 : True := trivial
      clear hn eW eH hb
      go_wp2_with (first | (go_at_call 52; refine (isAmount_is c true Pc.out _).mono ?_; rintro e w' ⟨rfl, rfl⟩) | (go_at_call 53; refine (isPlain_is hd true Ph.out _).mono ?_; rintro e w' ⟨rfl, rfl⟩) | (have _t := tk2; go_at_call 49; refine (isExtent_is W true EW.out _).mono ?_; rintro e w' ⟨rfl, rfl⟩; clear tk2) | (go_at_call 49; refine (isExtent_is H false EH.out _).mono ?_; rintro e w' ⟨rfl, rfl⟩) | (refine wpList_store_mid rfl 31 _ _ rfl _ 0 (Grd zG) rfl rfl (by rw [Grd_size]; exact G1.out.there) (by rw [Grd_size]; exact infoGround) (Grd_one _) ?_))
      refine bodyPost_ret (ret_GN rfl rfl rfl G1.out.store.range) rfl ⟨by rw [R1.out, R2.out], below_setCells _ (by omega) _ _ _ HB.out⟩

set_option maxRecDepth 100000 in
set_option maxHeartbeats 4000000 in
theorem implEven_good (W H : Int) (c hd : Nat) (w : World) (hT : TabAt w) (hn : numOk c hd = true) (eW : extN W = true) (eH : extN H = true) :
    Calls Tryd.prog 20 #[.int .i64 W, .int .i64 H, .float .f32 c, .float .f32 hd] w fun e w' => e = .returned (GN (evL W H c hd (cellL (ev0 W H))) 0) ∧ Below w.heap.size w w' := by
  have hz := (zero_of_info zeroGround).1
  refine (callsIn_wide (n := 6)).1 (callsIn_of_wp_marks Tryd.func20 rfl trivial ?_ rfl)
  simp only [Tryd.ntmps20, List.size_toArray, List.length_cons, List.length_nil, Nat.reduceAdd, Nat.reduceSub, Array.replicate_succ, Array.replicate_zero, List.push_toArray, List.append_toArray, List.nil_append, List.cons_append]
  refine wpIn_wide.2 ?_
  go_upto_region 1 with (fail)
  obtain ⟨V, hV, hs, c0, c1, g1, hB⟩ := even_box c hd 23 23 31 w
  rw [hV]
  clear hV
  have G1 := Lib.hid g1
  have HB := Lib.hid hB
  have Hs := Lib.hid hs
  clear g1 hB hs
  have HT := Lib.hid (hT.below HB.out (tab_lt hT))
  have glt := tab_lt hT
  clear hT
  have hn' : amtB c = true ∧ plainB hd = true := by
    unfold numOk at hn
    rw [← Bool.and_assoc, ← amtB_eq] at hn
    simpa using hn
  obtain ⟨pc, ph⟩ := hn'
  have Pc := Lib.hid pc
  have Ph := Lib.hid ph
  have EW := Lib.hid eW
  have EH := Lib.hid eH
  have bW : 2 ≤ W ∧ W ≤ 8 := by simpa [extN] using eW
  have bH : 2 ≤ H ∧ H ≤ 8 := by simpa [extN] using eH
  obtain ⟨w2, w8⟩ := bW
  obtain ⟨h2, h8⟩ := bH
  clear pc ph hn eW eH hz
  have tk2 : True := trivial
  go_upto_region 5 with (first | (go_at_call 52; refine (isAmount_is c true Pc.out _).mono ?_; rintro e w' ⟨rfl, rfl⟩) | (go_at_call 53; refine (isPlain_is hd true Ph.out _).mono ?_; rintro e w' ⟨rfl, rfl⟩) | (have _t := tk2; go_at_call 49; refine (isExtent_is W true EW.out _).mono ?_; rintro e w' ⟨rfl, rfl⟩; clear tk2) | (go_at_call 49; refine (isExtent_is H true EH.out _).mono ?_; rintro e w' ⟨rfl, rfl⟩))
  have hz := (zero_of_info zeroGround).1
  go_upto_region 6 with (rw [ev_build]; refine wpList_store_mid rfl 31 _ _ rfl _ 0 (Grd (ev0 W H)) rfl rfl (by rw [Grd_size]; exact new_there _ V) (by rw [Grd_size]; exact infoGround) (Grd_one _) ?_; obtain ⟨X, hX, zX, gX, bX⟩ := stored_box (ev0 W H) 31 V; rw [hX]; have hx : V.heap.size < X.heap.size := (by omega); clear hX zX)
  have hs := Hs.out
  obtain ⟨N, hN⟩ : ∃ N, V.heap.size = N := ⟨_, rfl⟩
  rw [hN] at gX bX hx hs ⊢
  have bX' : Below V.heap.size V X := by rw [hN]; exact bX
  have PX := Lib.hid gX
  have PXr := Lib.hid (G1.out.below bX' (by rw [hN]; omega))
  have BX := Lib.hid (HB.out.trans (bX'.mono (by rw [hN]; omega)))
  have TX := Lib.hid (HT.out.below bX' (tab_lt HT.out))
  have d0 := (bX'.cell (p := ⟨w.heap.size, 0, none⟩) (by simp; omega)).trans c0
  have d1 := (bX'.cell (p := ⟨w.heap.size + 1, 0, none⟩) (by simp; omega)).trans c1
  have zX : N < X.heap.size := by omega
  have hs1 : w.heap.size + 1 + 1 < N := by omega
  clear hs
  clear gX bX bX' hz G1 HB hN hx c0 c1 HT
  have m64 := cellsN_lt (ev0 W H)
  go_wp2_with (first | (go_at_call 50; refine (cells_ext (ev0 W H) W H ⟨rfl, rfl⟩ w2 w8 h2 h8 _ _ PX.out.at').mono ?_; rintro e w' ⟨rfl, rfl⟩) | (go_at_call 51; refine (bitsIn_any (cellsN (ev0 W H)) _).mono ?_; rintro e w' ⟨rfl, rfl⟩))
  obtain ⟨Y, hY⟩ : ∃ Y, X.alloc (.cells #[.int .u64 (cellsN (ev0 W H))] 25) = Y := ⟨_, rfl⟩
  have hbY : Below X.heap.size X Y := by rw [← hY]; exact (Below.refl _ _).alloc (Nat.le_refl _) _
  have cM : Y.cell? ⟨X.heap.size, 0, none⟩ = some (.int .u64 (cellsN (ev0 W H))) := by rw [← hY]; exact cell_of_row _ _ 0 _ _ _ (heap_alloc_last X _)
  have zY : X.heap.size < Y.heap.size := by rw [← hY]; simp
  have Q0 := Lib.hid (PX.out.below hbY zX)
  have Q0r := Lib.hid (PXr.out.below hbY (by omega))
  have D0 := Lib.hid (BX.out.trans (hbY.mono (by omega)))
  have TY := TX.out.below hbY (tab_lt TX.out)
  have e0 := (hbY.cell (p := ⟨w.heap.size, 0, none⟩) (by simp; omega)).trans d0
  have e1 := (hbY.cell (p := ⟨w.heap.size + 1, 0, none⟩) (by simp; omega)).trans d1
  rw [hY]
  clear hY hbY PX PXr BX TX d0 d1
  refine (wpIn_wide (n := 6)).1 (wp_bits 36 37 11 X.heap.size N (cellsN (ev0 W H)) m64 rfl cM TY (by omega) (by omega)
    (fun pre W2 => GBox W2 N (evL W H c hd pre)) (fun _ _ _ => False) (fun s A B h g => h.box g) (fun _ _ _ _ _ h => h) Q0.out ?assign ?body ?done ?stop)
  case assign =>
    intro l x W2 K hK
    simp only [List.setIfInBounds_toArray, List.set_cons_zero, List.set_cons_succ] at hK ⊢
    gi_wp2
    exact hK
  case body =>
    rintro l pre x W2 hI hB2 hbit hlt
    simp only [List.setIfInBounds_toArray, List.set_cons_zero, List.set_cons_succ]
    have l0 := (hB2.cell (p := ⟨w.heap.size, 0, none⟩) (by simp; omega)).trans e0
    have l1 := (hB2.cell (p := ⟨w.heap.size + 1, 0, none⟩) (by simp; omega)).trans e1
    have HB2 := Lib.hid hB2
    have b0 := hI.at_some (2 + x.1) (by omega)
    obtain ⟨u, hu⟩ := Option.isSome_iff_exists.1 b0
    have f0 := hI.free (2 + x.1) (by omega)
    have Qa := Lib.hid (hI.putC hlt (x := c))
    have Ka := Lib.hid (KeepsOthers.setCell W2 ⟨N, 2 + x.1, none⟩ (.float .f32 c))
    have Ba := Lib.hid ((Below.refl N W2).setCell (p := ⟨N, 2 + x.1, none⟩) (Nat.le_refl _) (.float .f32 c))
    clear b0 hI hB2 hbit
    refine wpIn_block ?_
    gi_upto_region 9 with (fail)
    obtain ⟨Wa, hW⟩ : ∃ W', World.setCell W2 ⟨N, 2 + x.1, none⟩ (.float .f32 c) = W' := ⟨_, rfl⟩
    rw [hW] at Qa Ka Ba ⊢
    have m1 := (Ba.out.cell (p := ⟨w.heap.size + 1, 0, none⟩) (by simp; omega)).trans l1
    clear hW hu f0 u l0 l1
    have b0 := Qa.out.at_some (130 + x.1) (by omega)
    obtain ⟨u, hu⟩ := Option.isSome_iff_exists.1 b0
    have f0 := Qa.out.free (130 + x.1) (by omega)
    have Qb := Lib.hid (Qa.out.putH hlt (x := hd))
    have Kb := Lib.hid (KeepsOthers.trans Ka.out (KeepsOthers.setCell Wa ⟨N, 130 + x.1, none⟩ (.float .f32 hd)))
    have Bb := Lib.hid (Ba.out.setCell (p := ⟨N, 130 + x.1, none⟩) (Nat.le_refl _) (.float .f32 hd))
    clear b0 Qa Ka Ba
    gi_wp2
    exact ⟨Kb.out, Bb.out, (by rw [nos_snoc, evL_snoc]; exact Qb.out), HB2.out.trans Bb.out⟩
  case done =>
    rintro D W2 hD hI hB2 hK
    rw [cellL_bits] at hI
    have rr := hI.range
    have HR0 := Lib.hid (Q0r.out.below hB2 (by omega))
    have HD0 := Lib.hid (D0.out.trans (hB2.mono (by omega)))
    clear hI hB2 Q0 Q0r cM TY e0 e1
    go_wp2_with (first | (refine wpList_load_mid rfl 31 _ rfl N 0 rfl (GrdL (evL W H c hd (cellL (ev0 W H)))) _ rr Tryd.underlying31 rfl (by rw [GrdL_length]; exact infoGround) ?_) | (refine wpList_store_mid rfl 31 _ _ rfl _ 0 (Grd (evL W H c hd (cellL (ev0 W H)))) rfl rfl (by rw [Grd_size]; exact HR0.out.there) (by rw [Grd_size]; exact infoGround) (Grd_one _) ?_))
    have hK2 : (W2.setCells (w.heap.size + 1 + 1) 0 (Grd (evL W H c hd (cellL (ev0 W H)))).toList).heap[D]? = some (.deferred (some [])) := by rw [heap_setCells_other _ (by omega)]; exact hK
    have gR := HR0.out.store (H := evL W H c hd (cellL (ev0 W H)))
    refine ret_marks hK2 (fun W' h => ret_GN rfl rfl rfl (h.box gR).range) (fun W' _ hb => ⟨rfl, ?_⟩)
    exact (below_setCells (B := w.heap.size) (a := w) (w.heap.size + 1 + 1) (by omega) (Grd (evL W H c hd (cellL (ev0 W H)))).toList 0 W2 HD0.out).trans (hb _ (by omega))
  case stop =>
    rintro D c pre W2 _ _ h _ _
    exact h.elim

theorem implEven_any (W H : Int) (c hd : Nat) (w : World) (hT : TabAt w) :
    Calls Tryd.prog 20 #[.int .i64 W, .int .i64 H, .float .f32 c, .float .f32 hd] w fun e w' => e = .returned (GN (evG W H c hd) (evN W H c hd)) ∧ Below w.heap.size w w' := by
  cases hb : (numOk c hd && (extN W && extN H))
  · exact implEven_bad W H c hd w hb
  · simp only [Bool.and_eq_true] at hb
    obtain ⟨h1, h2, h3⟩ := hb
    have e : evN W H c hd = 0 := by simp [evN, h1, h2, h3]
    rw [show evG W H c hd = evL W H c hd (cellL (ev0 W H)) by simp [evG, e], e]
    exact implEven_good W H c hd w hT h1 h2 h3
end Go.Proofs.YtjmekgogaiokpaaDoor
