/- The program's ValidBrine. Condition: the table of math/bits is laid. -/
import Derived.Test.YtikefaollfaejaaDoorBriF
namespace Go.Proofs.YtikefaollfaejaaDoor
open Go.RowKit Go.Shelf
attribute [local go_sem] Oper.semAt_some run_store_float
set_option linter.unusedSimpArgs false
set_option linter.unusedVariables false

set_option maxRecDepth 100000 in
set_option maxHeartbeats 4000000 in
theorem dissolved_any (p : Nat) (w : World) :
    Calls Tryd.prog 15 #[.pointer (some ⟨p, 0, none⟩)] w fun e w' => e = .returned (.agg #[.pointer (some ⟨p, 0, none⟩), .pointer (some ⟨p, 0, none⟩)]) ∧ Below w.heap.size w w' := by
  go_enter Tryd.func15, Tryd.ntmps15
  go_wp2
  obtain ⟨W, hW, z, r, hb⟩ := one_box #[.pointer (some ⟨p, 0, none⟩), .pointer (some ⟨p, 0, none⟩)] 51 w
  rw [hW]
  exact bodyPost_ret (results_cell_mid rfl _ _ _ 0 _ _ rfl r Tryd.underlying51 rfl (by kernel_rfl)) rfl ⟨rfl, hb⟩
/-- A salt as told, where there is a cell. -/
theorem saltB_eq (G : Gd) (f : Nat → Nat) : saltB G f = ((List.range 64).all (fun i => !isB G i || amtB (f i)) && eqF (outF f (cellsN G)) zf) := by
  rw [eqF_out, all_and]
  unfold saltB fieldB
  rw [all_and]
  refine all_congr64 fun i hi => ?_
  unfold okAt
  rw [amtB_eq]
  cases hb : isB G i
  · cases hz : zeroB (f i)
    · simp
    · simp [zero_not_neg hz]
  · cases plainB (f i) <;> cases negB (f i) <;> rfl
/-- What the program asks at a cell. -/
def brnAtB (B : Brn) (i : Nat) : Bool := amtB (B.s i) && (amtB (B.p i) && nbFin B.G i)
theorem brnB_eq (B : Brn) : brnB B = (validB B.G && (plainB B.r && (!tinyB B.r && ((List.range 64).all (fun i => !isB B.G i || brnAtB B i) && (eqF (outF B.s (cellsN B.G)) zf && eqF (outF B.p (cellsN B.G)) zf))))) := by
  have h : flowsB B.G = (List.range 64).all fun i => !isB B.G i || nbFin B.G i := all_congr64 fun i hi => by
    cases hb : isB B.G i
    · unfold flowsAt; rw [hb]; rfl
    · rw [flowsAt_eq _ _ hb]; rfl
  have h2 : (List.range 64).all (fun i => !isB B.G i || brnAtB B i) = ((List.range 64).all (fun i => !isB B.G i || amtB (B.s i)) && ((List.range 64).all (fun i => !isB B.G i || amtB (B.p i)) && (List.range 64).all fun i => !isB B.G i || nbFin B.G i)) := by
    rw [all_and, all_and]
    refine all_congr64 fun i hi => ?_
    unfold brnAtB
    cases isB B.G i <;> simp
  unfold brnB
  rw [saltB_eq, saltB_eq, h, h2]
  generalize validB B.G = a
  generalize plainB B.r = b
  generalize tinyB B.r = c
  generalize eqF (outF B.s (cellsN B.G)) zf = d
  generalize eqF (outF B.p (cellsN B.G)) zf = e
  generalize (List.range 64).all (fun i => !isB B.G i || amtB (B.s i)) = f
  generalize (List.range 64).all (fun i => !isB B.G i || amtB (B.p i)) = g
  generalize (List.range 64).all (fun i => !isB B.G i || nbFin B.G i) = h
  cases a <;> cases b <;> cases c <;> cases d <;> cases e <;> cases f <;> cases g <;> cases h <;> rfl
theorem vb_two (B : Brn) (t u : TypeId) (w : World) : ∃ W, (w.alloc (.cells (BrnA B) t)).alloc (.cells #[.bool false] u) = W ∧ W.heap.size = w.heap.size + 1 + 1 ∧ BrnBox W w.heap.size B ∧ W.cell? ⟨w.heap.size + 1, 0, none⟩ = some (.bool false) ∧ W.frozen? ⟨w.heap.size + 1, 0, none⟩ = false ∧ Below w.heap.size w W := by
  obtain ⟨V, hV, z1, g1, b1⟩ := bbox1 B t w
  rw [hV]
  have b2 : Below V.heap.size V (V.alloc (.cells #[.bool false] u)) := (Below.refl _ _).alloc (Nat.le_refl _) _
  have hl := heap_alloc_last V (.cells #[.bool false] u)
  have c := cell_of_row _ _ 0 _ _ _ hl
  have f := (there_row (n := 1) hl rfl 0 (by omega)).2
  rw [z1] at c f
  rw [Nat.zero_add] at f
  exact ⟨_, rfl, by simp [z1], g1.below b2 (by omega), c, f, b1.trans (b2.mono (by omega))⟩
theorem bool_at {W : World} {b : Nat} {v u : Bool} (h : W.cell? ⟨b, 0, none⟩ = some (.bool v)) : (W.setCell ⟨b, 0, none⟩ (.bool u)).cell? ⟨b, 0, none⟩ = some (.bool u) := World.cell?_setCell_same' _ _ _ (by rw [h]; rfl)

set_option maxRecDepth 100000 in
set_option maxHeartbeats 4000000 in
theorem implValidB_bad (B : Brn) (w : World) (hG : BrnOk B) (hT : TabAt w) (hbad : (validB B.G && (plainB B.r && !tinyB B.r)) = false) :
    Calls Tryd.prog 14 #[.agg (BrnA B)] w fun e w' => e = .returned (.bool false) ∧ Below w.heap.size w w' := by
  go_enter Tryd.func14, Tryd.ntmps14
  go_upto_region 1 with (fail)
  obtain ⟨W, hW, hs, b1, c5, f5, hB⟩ := vb_two B 36 4 w
  rw [hW]
  clear hW
  have r1 := b1.grd.range
  have B1 := Lib.hid b1
  have HB := Lib.hid hB
  have HG := Lib.hid hG
  have TW := Lib.hid (hT.below hB (tab_lt hT))
  have T0 := Lib.hid hT
  have hl : w.heap.size + 1 < W.heap.size := by omega
  clear b1 hB hG hT hs
  cases hv : validB B.G
  · have Hv := Lib.hid hv
    clear hbad hv
    go_wp2_with (first | (refine ld_stage 34 rfl ?_; refine wpList_load_mid rfl 34 _ rfl w.heap.size 0 rfl (GrdL B.G) _ r1 Tryd.underlying34 rfl (by rw [GrdL_length]; exact infoGround) ?_) | (go_at_call 26; have hc := (validGround_any B.G W HG.out.g TW.out (tab_lt TW.out)); rw [Hv.out] at hc; refine hc.mono ?_; clear hc; rintro e V ⟨rfl, hb1⟩; have Hb1 := Lib.hid hb1; have c6 := (Hb1.out.cell (p := ⟨w.heap.size + 1, 0, none⟩) (by simp; omega)).trans c5; have f6 := (Hb1.out.frozen (p := ⟨w.heap.size + 1, 0, none⟩) (by simp; omega)).trans f5; have cr := (B1.out.below hb1 (by omega)).r; clear hb1))
    refine bodyPost_ret (results_cell_bool rfl Tryd.underlying4 _ _ _ 0 false rfl (bool_at c6)) rfl ⟨rfl, (HB.out.trans (Hb1.out.mono (by omega))).setCell (p := ⟨w.heap.size + 1, 0, none⟩) (by simp) _⟩
  · have Hv := Lib.hid hv
    cases hr : plainB B.r
    · have Hr := Lib.hid hr
      clear hbad hv hr
      go_wp2_with (first | (refine ld_stage 34 rfl ?_; refine wpList_load_mid rfl 34 _ rfl w.heap.size 0 rfl (GrdL B.G) _ r1 Tryd.underlying34 rfl (by rw [GrdL_length]; exact infoGround) ?_) | (go_at_call 26; have hc := (validGround_any B.G W HG.out.g TW.out (tab_lt TW.out)); rw [Hv.out] at hc; refine hc.mono ?_; clear hc; rintro e V ⟨rfl, hb1⟩; have Hb1 := Lib.hid hb1; have c6 := (Hb1.out.cell (p := ⟨w.heap.size + 1, 0, none⟩) (by simp; omega)).trans c5; have f6 := (Hb1.out.frozen (p := ⟨w.heap.size + 1, 0, none⟩) (by simp; omega)).trans f5; have cr := (B1.out.below hb1 (by omega)).r; clear hb1) | (go_at_call 19; refine (isPlain_is B.r false Hr.out _).mono ?_; rintro e w' ⟨rfl, rfl⟩))
      refine bodyPost_ret (results_cell_bool rfl Tryd.underlying4 _ _ _ 0 false rfl (bool_at c6)) rfl ⟨rfl, (HB.out.trans (Hb1.out.mono (by omega))).setCell (p := ⟨w.heap.size + 1, 0, none⟩) (by simp) _⟩
    · have Hr := Lib.hid hr
      have ht : tinyB B.r = true := by simpa [hv, hr] using hbad
      unfold tinyB at ht
      clear hbad hv hr
      go_wp2_with (first | (refine ld_stage 34 rfl ?_; refine wpList_load_mid rfl 34 _ rfl w.heap.size 0 rfl (GrdL B.G) _ r1 Tryd.underlying34 rfl (by rw [GrdL_length]; exact infoGround) ?_) | (go_at_call 26; have hc := (validGround_any B.G W HG.out.g TW.out (tab_lt TW.out)); rw [Hv.out] at hc; refine hc.mono ?_; clear hc; rintro e V ⟨rfl, hb1⟩; have Hb1 := Lib.hid hb1; have c6 := (Hb1.out.cell (p := ⟨w.heap.size + 1, 0, none⟩) (by simp; omega)).trans c5; have f6 := (Hb1.out.frozen (p := ⟨w.heap.size + 1, 0, none⟩) (by simp; omega)).trans f5; have cr := (B1.out.below hb1 (by omega)).r; clear hb1) | (go_at_call 19; refine (isPlain_is B.r true Hr.out _).mono ?_; rintro e w' ⟨rfl, rfl⟩))
      refine bodyPost_ret (results_cell_bool rfl Tryd.underlying4 _ _ _ 0 false rfl (bool_at c6)) rfl ⟨rfl, (HB.out.trans (Hb1.out.mono (by omega))).setCell (p := ⟨w.heap.size + 1, 0, none⟩) (by simp) _⟩


set_option maxRecDepth 100000 in
set_option maxHeartbeats 4000000 in
theorem implValidB_good (B : Brn) (w : World) (hG : BrnOk B) (hT : TabAt w) (hv : validB B.G = true) (hr : plainB B.r = true) (ht : tinyB B.r = false) :
    Calls Tryd.prog 14 #[.agg (BrnA B)] w fun e w' => e = .returned (.bool ((List.range 64).all (fun i => !isB B.G i || brnAtB B i) && (eqF (outF B.s (cellsN B.G)) zf && eqF (outF B.p (cellsN B.G)) zf))) ∧ Below w.heap.size w w' := by
  obtain ⟨k1, k2, k3, k4⟩ := valid_ext hv
  have m64 := cellsN_lt B.G
  obtain ⟨r, hR⟩ : ∃ r, ((List.range 64).all (fun i => !isB B.G i || brnAtB B i) && (eqF (outF B.s (cellsN B.G)) zf && eqF (outF B.p (cellsN B.G)) zf)) = r := ⟨_, rfl⟩
  rw [hR]
  have HR := Lib.hid hR
  have hz := (zero_of_info zeroField).1
  unfold tinyB at ht
  refine (callsIn_wide (n := 6)).1 (callsIn_of_wp_marks Tryd.func14 rfl trivial ?_ rfl)
  simp only [Tryd.ntmps14, List.size_toArray, List.length_cons, List.length_nil, Nat.reduceAdd, Nat.reduceSub, Array.replicate_succ, Array.replicate_zero, List.push_toArray, List.append_toArray, List.nil_append, List.cons_append]
  refine wpIn_wide.2 ?_
  go_upto_region 1 with (fail)
  obtain ⟨W, hW, hs, b1, c5, f5, hB⟩ := vb_two B 36 4 w
  rw [hW]
  clear hW
  have r1 := b1.grd.range
  have B1 := Lib.hid b1
  have HB := Lib.hid hB
  have HG := Lib.hid hG
  have TW := Lib.hid (hT.below hB (tab_lt hT))
  have T0 := Lib.hid hT
  have hl : w.heap.size + 1 < W.heap.size := by omega
  clear b1 hB hG hT hs
  have Hv := Lib.hid hv
  have Hr := Lib.hid hr
  clear hv hr hR
  go_upto_region 3 with (first | (refine ld_stage 34 rfl ?_; refine wpList_load_mid rfl 34 _ rfl w.heap.size 0 rfl (GrdL B.G) _ r1 Tryd.underlying34 rfl (by rw [GrdL_length]; exact infoGround) ?_) | (go_at_call 26; have hc := (validGround_any B.G W HG.out.g TW.out (tab_lt TW.out)); rw [Hv.out] at hc; refine hc.mono ?_; clear hc; rintro e V ⟨rfl, hb1⟩; have Hb1 := Lib.hid hb1; have c6 := (Hb1.out.cell (p := ⟨w.heap.size + 1, 0, none⟩) (by simp; omega)).trans c5; have f6 := (Hb1.out.frozen (p := ⟨w.heap.size + 1, 0, none⟩) (by simp; omega)).trans f5; have cr := (B1.out.below hb1 (by omega)).r; clear hb1) | (go_at_call 19; refine (isPlain_is B.r true Hr.out _).mono ?_; rintro e w' ⟨rfl, rfl⟩))
  have b2 := B1.out.below Hb1.out (by omega)
  have TV := Lib.hid (TW.out.below Hb1.out (tab_lt TW.out))
  have HBV := Lib.hid (HB.out.trans (Hb1.out.mono (by omega)))
  have hlV : w.heap.size + 1 < V.heap.size := by have := Hb1.out.size; omega
  clear r1 B1 HB TW hl cr c5 f5 ht Hb1 k1 k2 k3 k4
  go_upto_region 4 with (go_at_call 15; refine (dissolved_any w.heap.size V).mono ?_; rintro e V1 ⟨rfl, hd⟩)
  obtain ⟨X, hX, zX, rX, hbX⟩ := one_box #[.pointer (some ⟨w.heap.size, 0, none⟩), .pointer (some ⟨w.heap.size, 0, none⟩)] 51 V1
  rw [hX]
  have hdX : Below V.heap.size V X := hd.trans (hbX.mono hd.size)
  obtain ⟨S, hS⟩ : ∃ S, V1.heap.size = S := ⟨_, rfl⟩
  have hSV : V.heap.size ≤ S := by have := hd.size; omega
  have hSX : S < X.heap.size := by omega
  rw [hS] at rX ⊢
  have s0 := rX 0 _ rfl
  have s1 := rX 1 _ rfl
  rw [Nat.zero_add] at s0 s1
  have b3 := b2.below hdX (by omega)
  have c8 := kc c6 (by omega) _ hdX
  have f8 := (hdX.frozen (p := ⟨w.heap.size + 1, 0, none⟩) (by simp; omega)).trans f6
  have TX := Lib.hid (TV.out.below hdX (tab_lt TV.out))
  have HBX := Lib.hid (HBV.out.trans (hdX.mono (by omega)))
  have B3 := Lib.hid b3
  clear hX hd hbX hdX zX rX hS b2 b3 c6 f6 TV HBV
  have wd := valid_ext Hv.out
  go_upto_region 6 with (first | (go_at_call 27; refine (cells_any B.G B.G.wide.toNat B.G.high.toNat (by omega) (by omega) (by omega) (by omega) _ _ B3.out.at'.g).mono ?_; rintro e w' ⟨rfl, rfl⟩) | (go_at_call 16; refine (bitsIn_any (cellsN B.G) _).mono ?_; rintro e w' ⟨rfl, rfl⟩))
  obtain ⟨Y, hY, zY, rY, hbY⟩ := one_box #[.int .u64 (cellsN B.G)] 25 X
  rw [hY]
  have hm0 := rY 0 _ rfl
  rw [Nat.zero_add] at hm0
  have s0 := kc s0 hSX _ hbY
  have s1 := kc s1 hSX _ hbY
  have c8 := kc c8 (by omega) _ hbY
  have f8 := (hbY.frozen (p := ⟨w.heap.size + 1, 0, none⟩) (by simp; omega)).trans f8
  have B3 := Lib.hid (B3.out.below hbY (by omega))
  have TX := Lib.hid (TX.out.below hbY (tab_lt TX.out))
  have HBX := Lib.hid (HBX.out.trans (hbY.mono (by omega)))
  have HV := Lib.hid Hv.out
  have hSY : S < Y.heap.size := by omega
  have hgl := tab_lt T0.out
  clear hY rY hbY wd
  refine (wpIn_wide (n := 6)).1 (wp_bits 27 28 5 X.heap.size (w.heap.size + 1) (cellsN B.G) m64 rfl hm0 TX.out (by omega) (by omega)
    (fun pre W2 => W2.cell? ⟨S, 0, none⟩ = some (.pointer (some ⟨w.heap.size, 0, none⟩)) ∧ W2.cell? ⟨S, 1, none⟩ = some (.pointer (some ⟨w.heap.size, 0, none⟩)) ∧ W2.cell? ⟨w.heap.size + 1, 0, none⟩ = some (.bool false) ∧ W2.frozen? ⟨w.heap.size + 1, 0, none⟩ = false ∧ (∀ y ∈ pre, brnAtB B y = true) ∧ Y.heap.size ≤ W2.heap.size)
    (fun c pre W2 => c = .ret ∧ W2.cell? ⟨w.heap.size + 1, 0, none⟩ = some (.bool false) ∧ ∃ y ∈ pre, brnAtB B y = false)
    (fun s A B h ⟨h1, h2, h3, h4, h5, h6⟩ => ⟨h.cell h1, h.cell h2, h.cell h3, (h.frozen h3).trans h4, h5, Nat.le_trans h6 h.size⟩) (fun c s A B h ⟨h1, h2, h3⟩ => ⟨h1, h.cell h2, h3⟩) ⟨s0, s1, c8, f8, (fun y hy => by cases hy), Nat.le_refl _⟩ ?assign ?body ?done ?stop)
  case assign =>
    intro l x W K hK
    simp only [List.setIfInBounds_toArray, List.set_cons_zero, List.set_cons_succ] at hK ⊢
    gi_wp2
    exact hK
  case body =>
    rintro l pre x W2 ⟨h1, h2, h3, h4, h5, h6⟩ hB2 _ hx64
    simp only [List.setIfInBounds_toArray, List.set_cons_zero, List.set_cons_succ]
    have BX := Lib.hid (B3.out.below hB2 (by omega))
    have q1 := Grd_fld BX.out.s x.1 hx64
    have q2 := Grd_fld BX.out.p x.1 hx64
    have H5 := Lib.hid h5
    have HB2 := Lib.hid hB2
    have hx2 : (x.1 : Int) < 64 := by omega
    clear h5 hB2
    cases ps : amtB (B.s x.1)
    · have Bad := Lib.hid (show brnAtB B x.1 = false by unfold brnAtB; rw [ps]; rfl)
      gi_wp2_with (first | (refine ⟨trivial, ?_⟩; gi_at_call 28; refine (callsIn_wide.2 (isAmount_any _ _)).mono ?_; rintro e w' ⟨rfl, rfl⟩) | (refine ⟨trivial, ?_⟩))
      exact ⟨KeepsOthers.trans (B := W2) (KeepsOthers.refl _) (KeepsOthers.setCell _ _ _), ⟨rfl, bool_at h3, x.1, by rw [nos_snoc]; simp, Bad.out⟩, (HB2.out).setCell (p := ⟨w.heap.size + 1, 0, none⟩) (by simp) _⟩
    cases pp : amtB (B.p x.1)
    · have Bad := Lib.hid (show brnAtB B x.1 = false by unfold brnAtB; rw [ps, pp]; rfl)
      gi_wp2_with (first | (refine ⟨trivial, ?_⟩; gi_at_call 28; refine (callsIn_wide.2 (isAmount_any _ _)).mono ?_; rintro e w' ⟨rfl, rfl⟩) | (refine ⟨trivial, ?_⟩))
      exact ⟨KeepsOthers.trans (B := W2) (KeepsOthers.refl _) (KeepsOthers.setCell _ _ _), ⟨rfl, bool_at h3, x.1, by rw [nos_snoc]; simp, Bad.out⟩, (HB2.out).setCell (p := ⟨w.heap.size + 1, 0, none⟩) (by simp) _⟩
    cases pf : nbFin B.G x.1
    · have Bad := Lib.hid (show brnAtB B x.1 = false by unfold brnAtB; rw [ps, pp, pf]; rfl)
      have Hf := Lib.hid pf
      clear pf
      gi_wp2_with (first | (refine ⟨trivial, ?_⟩; gi_at_call 28; refine (callsIn_wide.2 (isAmount_any _ _)).mono ?_; rintro e w' ⟨rfl, rfl⟩) | (refine ⟨trivial, ?_⟩; gi_at_call 29; have hc := implHasFin_any B.G x.1 hx64 HV.out w.heap.size W2 BX.out.at'.g BX.out.lt HG.out.g; rw [Hf.out] at hc; refine (callsIn_wide.2 hc).mono ?_; clear hc; rintro e w3 ⟨rfl, hb3⟩; have Hb3 := Lib.hid hb3; have c7 := (hb3.cell (p := ⟨w.heap.size + 1, 0, none⟩) (by simp; omega)).trans h3; have f7 := (hb3.frozen (p := ⟨w.heap.size + 1, 0, none⟩) (by simp; omega)).trans h4; clear hb3) | (refine ⟨trivial, ?_⟩))
      exact ⟨KeepsOthers.trans (B := w3) (KeepsOthers.of_below' Hb3.out) (KeepsOthers.setCell _ _ _), ⟨rfl, bool_at c7, x.1, by rw [nos_snoc]; simp, Bad.out⟩, (HB2.out.trans (Hb3.out.mono (by have := HB2.out.size; omega))).setCell (p := ⟨w.heap.size + 1, 0, none⟩) (by simp) _⟩
    · have Good := Lib.hid (show brnAtB B x.1 = true by unfold brnAtB; rw [ps, pp, pf]; rfl)
      have Hf := Lib.hid pf
      clear pf
      gi_wp2_with (first | (refine ⟨trivial, ?_⟩; gi_at_call 28; refine (callsIn_wide.2 (isAmount_any _ _)).mono ?_; rintro e w' ⟨rfl, rfl⟩) | (refine ⟨trivial, ?_⟩; gi_at_call 29; have hc := implHasFin_any B.G x.1 hx64 HV.out w.heap.size W2 BX.out.at'.g BX.out.lt HG.out.g; rw [Hf.out] at hc; refine (callsIn_wide.2 hc).mono ?_; clear hc; rintro e w3 ⟨rfl, hb3⟩; have Hb3 := Lib.hid hb3; have c7 := (hb3.cell (p := ⟨w.heap.size + 1, 0, none⟩) (by simp; omega)).trans h3; have f7 := (hb3.frozen (p := ⟨w.heap.size + 1, 0, none⟩) (by simp; omega)).trans h4; clear hb3) | (refine ⟨trivial, ?_⟩))
      have hz3 := Hb3.out.size
      exact ⟨KeepsOthers.of_below' Hb3.out, Hb3.out.mono (by have := HB2.out.size; omega), ⟨kc h1 (by omega) _ Hb3.out, kc h2 (by omega) _ Hb3.out, c7, f7, (fun y hy => by rw [nos_snoc, List.mem_append, List.mem_singleton] at hy; rcases hy with h | rfl; exact H5.out y h; exact Good.out), by omega⟩, HB2.out.trans (Hb3.out.mono (by have := HB2.out.size; omega))⟩
  case done =>
    rintro D W2 hD ⟨h1, h2, h3, h4, h5, h6⟩ hB2 hK
    have hall : (List.range 64).all (fun i => !isB B.G i || brnAtB B i) = true := all_yes fun i hi => by
      cases hb : isB B.G i
      · rfl
      · simp [h5 i (mem_bitsL.2 ⟨hi, by rw [cellsN_testBit, hb]; simp [hi]⟩)]
    have R := Lib.hid (show (eqF (outF B.s (cellsN B.G)) zf && eqF (outF B.p (cellsN B.G)) zf) = r by rw [← HR.out, hall]; rfl)
    have hwD : w.heap.size ≤ D := by have := HBX.out.size; omega
    have hDn : D ≠ w.heap.size + 1 := by omega
    have hDl : D < W2.heap.size := (Array.getElem?_eq_some_iff.1 hK).1
    have B4 := Lib.hid (B3.out.below hB2 (by omega))
    have T4 := Lib.hid (TX.out.below hB2 (by omega))
    have HB4 := Lib.hid (HBX.out.trans (hB2.mono (by omega)))
    clear hall h5 s0 s1 c8 f8 B3 TX HBX hB2 hD zY hm0 h1
    go_upto_region 10 with (refine st_stage 32 rfl ?_; refine wpList_store_mid rfl 32 _ _ rfl _ 0 (Fld zf) rfl rfl (by rw [Fld_size]; exact new_thereF _ W2) (by rw [Fld_size]; exact infoField) (Fld_one _) ?_)
    obtain ⟨Z, hZ, zZ, gZ, bZ⟩ := stored_fld zf 32 W2
    rw [hZ]
    have B5 := Lib.hid (B4.out.below bZ (by omega))
    have TZ := Lib.hid (T4.out.below bZ (tab_lt T4.out))
    have HBZ := Lib.hid (HB4.out.trans (bZ.mono (by omega)))
    have hKZ := (bZ.block D hDl).trans hK
    have s1 := kc h2 (by omega) _ bZ
    have c3 := kc h3 (by omega) _ bZ
    have f3 := (bZ.frozen (p := ⟨w.heap.size + 1, 0, none⟩) (by simp; omega)).trans h4
    have t1 : Z.there (w.heap.size + 1) 0 1 := fun j hj => by obtain rfl : j = 0 := (by omega); exact ⟨by rw [Nat.zero_add, c3]; rfl, by rw [Nat.zero_add]; exact f3⟩
    obtain ⟨N, hN⟩ : ∃ N, W2.heap.size = N := ⟨_, rfl⟩
    rw [hN] at gZ ⊢
    have zs := B5.out.s
    have zp := B5.out.p
    have zn := gZ
    have hlZ : N < Z.heap.size := by omega
    have hDZ : D < Z.heap.size := by omega
    have hSZ : S < Z.heap.size := by omega
    have hwZ : w.heap.size + 1 < Z.heap.size := by omega
    clear hZ zZ gZ bZ hN B4 T4 HB4 h2 h3 h4 h6 c3 f3 hK hDl hz
    cases c1 : eqF (outF B.s (cellsN B.G)) zf
    · rw [c1] at R
      refine wp_region_calm (ops' := regOf Tryd.f14 10) [0, 1, 2, 3, 4, 5, 6, 7, 8, 9, 10, 11, 12, 13, 14, 15, 16, 17, 18, 19] [20] (.run 20 .fin) (Below (Z.heap.size) Z) [(0, One (.pointer (some ⟨S, 1, none⟩))), (1, One (.pointer (some ⟨w.heap.size, 0, none⟩))), (2, One (.pointer (some ⟨w.heap.size, 0, none⟩))), (3, One (.pointer (some ⟨w.heap.size, 195, none⟩))), (4, One (.agg (Fld B.s))), (5, One (.int .u64 (cellsN B.G))), (6, One (.agg (Fld (outF B.s (cellsN B.G))))), (7, One (.agg (Fld zf))), (8, One (.bool false)), (9, One (.bool false)), (10, One undef), (11, One undef), (12, One undef), (13, One undef), (14, One undef), (15, One undef), (16, One undef), (17, One undef), (18, One undef), (19, One (.bool false))] (by kernel_rfl) (by kernel_rfl) (by kernel_rfl) (by kernel_rfl) (by kernel_rfl) (by kernel_rfl) (by kernel_rfl) (by kernel_rfl) rfl ((Below.refl _ _).drew) ?_
      refine calm_pure (some 57) (by kernel_rfl) (by kernel_rfl) (by kernel_rfl) (fun _ => by kernel_rfl) ?_
      refine calm_read (some 58) (by kernel_rfl) (by kernel_rfl) (by kernel_rfl) (fun w' hw' => load_cell (ty := 42) (x := .tmp 57) (b := S) (o := 1) (by kernel_rfl) (by kernel_rfl) Tryd.underlying42 rfl (kc s1 (by omega) w' hw')) ?_
      refine calm_pure (some 59) (by kernel_rfl) (by kernel_rfl) (by kernel_rfl) (fun _ => by kernel_rfl) ?_
      refine calm_pure (some 60) (by kernel_rfl) (by kernel_rfl) (by kernel_rfl) (fun _ => by kernel_rfl) ?_
      refine calm_load (some 61) 32 (.tmp 60) (w.heap.size) 195 _ (by kernel_rfl) (by kernel_rfl) (by kernel_rfl) (by kernel_rfl) (by kernel_rfl) (range_kept zs (by omega)) Tryd.underlying32 rfl (by rw [Fld_length]; exact infoField) ?_
      refine calm_pure (some 62) (by kernel_rfl) (by kernel_rfl) (by kernel_rfl) (fun _ => by kernel_rfl) ?_
      refine calm_call (some 63) 30 #[.agg (Fld B.s), .int .u64 (cellsN B.G)] ⟨_, rfl⟩ (by kernel_rfl) (by kernel_rfl) (by kernel_rfl) (fun _ => by kernel_rfl) (fun w' hw' => (outside_any B.s (cellsN B.G) m64 w' (TZ.out.below hw' (tab_lt TZ.out)) (by have := hw'.size; have := tab_lt TZ.out; omega)).mono fun e w2 h => ⟨_, h.1, rfl, below_step hw' h.2 (by have := hw'.size; omega)⟩) ?_
      rintro _ rfl
      refine calm_load (some 64) 32 (.tmp 6) (N) 0 _ (by kernel_rfl) (by kernel_rfl) (by kernel_rfl) (by kernel_rfl) (by kernel_rfl) (range_kept zn (by omega)) Tryd.underlying32 rfl (by rw [Fld_length]; exact infoField) ?_
      refine calm_pure (some 65) (by kernel_rfl) (by kernel_rfl) (by kernel_rfl) (fun _ => by rw [← c1]; exact run_eql_fld (x := .tmp 63) (y := .tmp 64) (t := 32) (by kernel_rfl) (by kernel_rfl) (by kernel_rfl) _) ?_
      refine calm_pure (some 66) (by kernel_rfl) (by kernel_rfl) (by kernel_rfl) (fun _ => by kernel_rfl) ?_
      refine calm_skip (some 67) (by kernel_rfl) (by kernel_rfl) (by kernel_rfl) ?_
      refine calm_skip (some 68) (by kernel_rfl) (by kernel_rfl) (by kernel_rfl) ?_
      refine calm_skip (some 69) (by kernel_rfl) (by kernel_rfl) (by kernel_rfl) ?_
      refine calm_skip (some 70) (by kernel_rfl) (by kernel_rfl) (by kernel_rfl) ?_
      refine calm_skip (some 71) (by kernel_rfl) (by kernel_rfl) (by kernel_rfl) ?_
      refine calm_skip (some 72) (by kernel_rfl) (by kernel_rfl) (by kernel_rfl) ?_
      refine calm_skip (some 73) (by kernel_rfl) (by kernel_rfl) (by kernel_rfl) ?_
      refine calm_skip (some 74) (by kernel_rfl) (by kernel_rfl) (by kernel_rfl) ?_
      refine calm_skip (some 75) (by kernel_rfl) (by kernel_rfl) (by kernel_rfl) ?_
      refine calm_pure (some 76) (by kernel_rfl) (by kernel_rfl) (by kernel_rfl) (fun _ => by kernel_rfl) ?_
      refine calm_end fun w' hw' => plan_do none undef (w'.setCell ⟨w.heap.size + 1, 0, none⟩ (.bool false)) (by kernel_rfl) (by kernel_rfl) (by kernel_rfl) (.inr ⟨run_store_op (x := .tmp 2) (y := .tmp 76) (b := w.heap.size + 1) (o := 0) (v := false) (by kernel_rfl) (by kernel_rfl) (by kernel_rfl) (there_below t1 hw' (by omega)), rfl⟩) trivial (plan_end (Clean.normal ?_))
      have c9 : (w'.setCell ⟨w.heap.size + 1, 0, none⟩ (.bool false)).cell? ⟨w.heap.size + 1, 0, none⟩ = some (.bool false) := World.cell?_setCell_same' _ _ _ (there_below t1 hw' (by omega) 0 (by omega)).1
      have hK9 : (w'.setCell ⟨w.heap.size + 1, 0, none⟩ (.bool false)).heap[D]? = some (.deferred (some [])) := (heap_setCells_other [Value.bool false] hDn (o := 0) (W := w')).trans ((hw'.block D (by omega)).trans hKZ)
      have HB9 := Lib.hid ((HBZ.out.trans (hw'.mono (by have := HBZ.out.size; omega))).setCell (p := ⟨w.heap.size + 1, 0, none⟩) (by simp) (.bool false))
      clear hw'
      simp only [Act.put, List.setIfInBounds_toArray, List.set_cons_zero, List.set_cons_succ]
      go_wp2
      exact ret_marks hK9 (fun W' hc => results_cell_bool rfl Tryd.underlying4 _ _ _ 0 false rfl (hc.cell c9)) (fun W' _ hb => ⟨by rw [← R.out]; rfl, HB9.out.trans (hb _ hwD)⟩)
    cases c2 : eqF (outF B.p (cellsN B.G)) zf
    · rw [c1, c2] at R
      refine wp_region_calm (ops' := regOf Tryd.f14 10) [0, 1, 2, 3, 4, 5, 6, 7, 8, 9, 10, 11, 12, 13, 14, 15, 16, 17, 18, 19] [20] (.run 20 .fin) (Below (Z.heap.size) Z) [(0, One (.pointer (some ⟨S, 1, none⟩))), (1, One (.pointer (some ⟨w.heap.size, 0, none⟩))), (2, One (.pointer (some ⟨w.heap.size, 0, none⟩))), (3, One (.pointer (some ⟨w.heap.size, 195, none⟩))), (4, One (.agg (Fld B.s))), (5, One (.int .u64 (cellsN B.G))), (6, One (.agg (Fld (outF B.s (cellsN B.G))))), (7, One (.agg (Fld zf))), (8, One (.bool true)), (9, One (.bool true)), (10, One (.pointer (some ⟨S, 1, none⟩))), (11, One (.pointer (some ⟨w.heap.size, 0, none⟩))), (12, One (.pointer (some ⟨w.heap.size, 0, none⟩))), (13, One (.pointer (some ⟨w.heap.size, 259, none⟩))), (14, One (.agg (Fld B.p))), (15, One (.int .u64 (cellsN B.G))), (16, One (.agg (Fld (outF B.p (cellsN B.G))))), (17, One (.agg (Fld zf))), (18, One (.bool false)), (19, One (.bool false))] (by kernel_rfl) (by kernel_rfl) (by kernel_rfl) (by kernel_rfl) (by kernel_rfl) (by kernel_rfl) (by kernel_rfl) (by kernel_rfl) rfl ((Below.refl _ _).drew) ?_
      refine calm_pure (some 57) (by kernel_rfl) (by kernel_rfl) (by kernel_rfl) (fun _ => by kernel_rfl) ?_
      refine calm_read (some 58) (by kernel_rfl) (by kernel_rfl) (by kernel_rfl) (fun w' hw' => load_cell (ty := 42) (x := .tmp 57) (b := S) (o := 1) (by kernel_rfl) (by kernel_rfl) Tryd.underlying42 rfl (kc s1 (by omega) w' hw')) ?_
      refine calm_pure (some 59) (by kernel_rfl) (by kernel_rfl) (by kernel_rfl) (fun _ => by kernel_rfl) ?_
      refine calm_pure (some 60) (by kernel_rfl) (by kernel_rfl) (by kernel_rfl) (fun _ => by kernel_rfl) ?_
      refine calm_load (some 61) 32 (.tmp 60) (w.heap.size) 195 _ (by kernel_rfl) (by kernel_rfl) (by kernel_rfl) (by kernel_rfl) (by kernel_rfl) (range_kept zs (by omega)) Tryd.underlying32 rfl (by rw [Fld_length]; exact infoField) ?_
      refine calm_pure (some 62) (by kernel_rfl) (by kernel_rfl) (by kernel_rfl) (fun _ => by kernel_rfl) ?_
      refine calm_call (some 63) 30 #[.agg (Fld B.s), .int .u64 (cellsN B.G)] ⟨_, rfl⟩ (by kernel_rfl) (by kernel_rfl) (by kernel_rfl) (fun _ => by kernel_rfl) (fun w' hw' => (outside_any B.s (cellsN B.G) m64 w' (TZ.out.below hw' (tab_lt TZ.out)) (by have := hw'.size; have := tab_lt TZ.out; omega)).mono fun e w2 h => ⟨_, h.1, rfl, below_step hw' h.2 (by have := hw'.size; omega)⟩) ?_
      rintro _ rfl
      refine calm_load (some 64) 32 (.tmp 6) (N) 0 _ (by kernel_rfl) (by kernel_rfl) (by kernel_rfl) (by kernel_rfl) (by kernel_rfl) (range_kept zn (by omega)) Tryd.underlying32 rfl (by rw [Fld_length]; exact infoField) ?_
      refine calm_pure (some 65) (by kernel_rfl) (by kernel_rfl) (by kernel_rfl) (fun _ => by rw [← c1]; exact run_eql_fld (x := .tmp 63) (y := .tmp 64) (t := 32) (by kernel_rfl) (by kernel_rfl) (by kernel_rfl) _) ?_
      refine calm_pure (some 66) (by kernel_rfl) (by kernel_rfl) (by kernel_rfl) (fun _ => by kernel_rfl) ?_
      refine calm_pure (some 67) (by kernel_rfl) (by kernel_rfl) (by kernel_rfl) (fun _ => by kernel_rfl) ?_
      refine calm_read (some 68) (by kernel_rfl) (by kernel_rfl) (by kernel_rfl) (fun w' hw' => load_cell (ty := 42) (x := .tmp 67) (b := S) (o := 1) (by kernel_rfl) (by kernel_rfl) Tryd.underlying42 rfl (kc s1 (by omega) w' hw')) ?_
      refine calm_pure (some 69) (by kernel_rfl) (by kernel_rfl) (by kernel_rfl) (fun _ => by kernel_rfl) ?_
      refine calm_pure (some 70) (by kernel_rfl) (by kernel_rfl) (by kernel_rfl) (fun _ => by kernel_rfl) ?_
      refine calm_load (some 71) 32 (.tmp 70) (w.heap.size) 259 _ (by kernel_rfl) (by kernel_rfl) (by kernel_rfl) (by kernel_rfl) (by kernel_rfl) (range_kept zp (by omega)) Tryd.underlying32 rfl (by rw [Fld_length]; exact infoField) ?_
      refine calm_pure (some 72) (by kernel_rfl) (by kernel_rfl) (by kernel_rfl) (fun _ => by kernel_rfl) ?_
      refine calm_call (some 73) 30 #[.agg (Fld B.p), .int .u64 (cellsN B.G)] ⟨_, rfl⟩ (by kernel_rfl) (by kernel_rfl) (by kernel_rfl) (fun _ => by kernel_rfl) (fun w' hw' => (outside_any B.p (cellsN B.G) m64 w' (TZ.out.below hw' (tab_lt TZ.out)) (by have := hw'.size; have := tab_lt TZ.out; omega)).mono fun e w2 h => ⟨_, h.1, rfl, below_step hw' h.2 (by have := hw'.size; omega)⟩) ?_
      rintro _ rfl
      refine calm_load (some 74) 32 (.tmp 6) (N) 0 _ (by kernel_rfl) (by kernel_rfl) (by kernel_rfl) (by kernel_rfl) (by kernel_rfl) (range_kept zn (by omega)) Tryd.underlying32 rfl (by rw [Fld_length]; exact infoField) ?_
      refine calm_pure (some 75) (by kernel_rfl) (by kernel_rfl) (by kernel_rfl) (fun _ => by rw [← c2]; exact run_eql_fld (x := .tmp 73) (y := .tmp 74) (t := 32) (by kernel_rfl) (by kernel_rfl) (by kernel_rfl) _) ?_
      refine calm_pure (some 76) (by kernel_rfl) (by kernel_rfl) (by kernel_rfl) (fun _ => by kernel_rfl) ?_
      refine calm_end fun w' hw' => plan_do none undef (w'.setCell ⟨w.heap.size + 1, 0, none⟩ (.bool false)) (by kernel_rfl) (by kernel_rfl) (by kernel_rfl) (.inr ⟨run_store_op (x := .tmp 2) (y := .tmp 76) (b := w.heap.size + 1) (o := 0) (v := false) (by kernel_rfl) (by kernel_rfl) (by kernel_rfl) (there_below t1 hw' (by omega)), rfl⟩) trivial (plan_end (Clean.normal ?_))
      have c9 : (w'.setCell ⟨w.heap.size + 1, 0, none⟩ (.bool false)).cell? ⟨w.heap.size + 1, 0, none⟩ = some (.bool false) := World.cell?_setCell_same' _ _ _ (there_below t1 hw' (by omega) 0 (by omega)).1
      have hK9 : (w'.setCell ⟨w.heap.size + 1, 0, none⟩ (.bool false)).heap[D]? = some (.deferred (some [])) := (heap_setCells_other [Value.bool false] hDn (o := 0) (W := w')).trans ((hw'.block D (by omega)).trans hKZ)
      have HB9 := Lib.hid ((HBZ.out.trans (hw'.mono (by have := HBZ.out.size; omega))).setCell (p := ⟨w.heap.size + 1, 0, none⟩) (by simp) (.bool false))
      clear hw'
      simp only [Act.put, List.setIfInBounds_toArray, List.set_cons_zero, List.set_cons_succ]
      go_wp2
      exact ret_marks hK9 (fun W' hc => results_cell_bool rfl Tryd.underlying4 _ _ _ 0 false rfl (hc.cell c9)) (fun W' _ hb => ⟨by rw [← R.out]; rfl, HB9.out.trans (hb _ hwD)⟩)
    rw [c1, c2] at R
    refine wp_region_calm (ops' := regOf Tryd.f14 10) [0, 1, 2, 3, 4, 5, 6, 7, 8, 9, 10, 11, 12, 13, 14, 15, 16, 17, 18, 19] [20] (.run 20 .fin) (Below (Z.heap.size) Z) [(0, One (.pointer (some ⟨S, 1, none⟩))), (1, One (.pointer (some ⟨w.heap.size, 0, none⟩))), (2, One (.pointer (some ⟨w.heap.size, 0, none⟩))), (3, One (.pointer (some ⟨w.heap.size, 195, none⟩))), (4, One (.agg (Fld B.s))), (5, One (.int .u64 (cellsN B.G))), (6, One (.agg (Fld (outF B.s (cellsN B.G))))), (7, One (.agg (Fld zf))), (8, One (.bool true)), (9, One (.bool true)), (10, One (.pointer (some ⟨S, 1, none⟩))), (11, One (.pointer (some ⟨w.heap.size, 0, none⟩))), (12, One (.pointer (some ⟨w.heap.size, 0, none⟩))), (13, One (.pointer (some ⟨w.heap.size, 259, none⟩))), (14, One (.agg (Fld B.p))), (15, One (.int .u64 (cellsN B.G))), (16, One (.agg (Fld (outF B.p (cellsN B.G))))), (17, One (.agg (Fld zf))), (18, One (.bool true)), (19, One (.bool true))] (by kernel_rfl) (by kernel_rfl) (by kernel_rfl) (by kernel_rfl) (by kernel_rfl) (by kernel_rfl) (by kernel_rfl) (by kernel_rfl) rfl ((Below.refl _ _).drew) ?_
    refine calm_pure (some 57) (by kernel_rfl) (by kernel_rfl) (by kernel_rfl) (fun _ => by kernel_rfl) ?_
    refine calm_read (some 58) (by kernel_rfl) (by kernel_rfl) (by kernel_rfl) (fun w' hw' => load_cell (ty := 42) (x := .tmp 57) (b := S) (o := 1) (by kernel_rfl) (by kernel_rfl) Tryd.underlying42 rfl (kc s1 (by omega) w' hw')) ?_
    refine calm_pure (some 59) (by kernel_rfl) (by kernel_rfl) (by kernel_rfl) (fun _ => by kernel_rfl) ?_
    refine calm_pure (some 60) (by kernel_rfl) (by kernel_rfl) (by kernel_rfl) (fun _ => by kernel_rfl) ?_
    refine calm_load (some 61) 32 (.tmp 60) (w.heap.size) 195 _ (by kernel_rfl) (by kernel_rfl) (by kernel_rfl) (by kernel_rfl) (by kernel_rfl) (range_kept zs (by omega)) Tryd.underlying32 rfl (by rw [Fld_length]; exact infoField) ?_
    refine calm_pure (some 62) (by kernel_rfl) (by kernel_rfl) (by kernel_rfl) (fun _ => by kernel_rfl) ?_
    refine calm_call (some 63) 30 #[.agg (Fld B.s), .int .u64 (cellsN B.G)] ⟨_, rfl⟩ (by kernel_rfl) (by kernel_rfl) (by kernel_rfl) (fun _ => by kernel_rfl) (fun w' hw' => (outside_any B.s (cellsN B.G) m64 w' (TZ.out.below hw' (tab_lt TZ.out)) (by have := hw'.size; have := tab_lt TZ.out; omega)).mono fun e w2 h => ⟨_, h.1, rfl, below_step hw' h.2 (by have := hw'.size; omega)⟩) ?_
    rintro _ rfl
    refine calm_load (some 64) 32 (.tmp 6) (N) 0 _ (by kernel_rfl) (by kernel_rfl) (by kernel_rfl) (by kernel_rfl) (by kernel_rfl) (range_kept zn (by omega)) Tryd.underlying32 rfl (by rw [Fld_length]; exact infoField) ?_
    refine calm_pure (some 65) (by kernel_rfl) (by kernel_rfl) (by kernel_rfl) (fun _ => by rw [← c1]; exact run_eql_fld (x := .tmp 63) (y := .tmp 64) (t := 32) (by kernel_rfl) (by kernel_rfl) (by kernel_rfl) _) ?_
    refine calm_pure (some 66) (by kernel_rfl) (by kernel_rfl) (by kernel_rfl) (fun _ => by kernel_rfl) ?_
    refine calm_pure (some 67) (by kernel_rfl) (by kernel_rfl) (by kernel_rfl) (fun _ => by kernel_rfl) ?_
    refine calm_read (some 68) (by kernel_rfl) (by kernel_rfl) (by kernel_rfl) (fun w' hw' => load_cell (ty := 42) (x := .tmp 67) (b := S) (o := 1) (by kernel_rfl) (by kernel_rfl) Tryd.underlying42 rfl (kc s1 (by omega) w' hw')) ?_
    refine calm_pure (some 69) (by kernel_rfl) (by kernel_rfl) (by kernel_rfl) (fun _ => by kernel_rfl) ?_
    refine calm_pure (some 70) (by kernel_rfl) (by kernel_rfl) (by kernel_rfl) (fun _ => by kernel_rfl) ?_
    refine calm_load (some 71) 32 (.tmp 70) (w.heap.size) 259 _ (by kernel_rfl) (by kernel_rfl) (by kernel_rfl) (by kernel_rfl) (by kernel_rfl) (range_kept zp (by omega)) Tryd.underlying32 rfl (by rw [Fld_length]; exact infoField) ?_
    refine calm_pure (some 72) (by kernel_rfl) (by kernel_rfl) (by kernel_rfl) (fun _ => by kernel_rfl) ?_
    refine calm_call (some 73) 30 #[.agg (Fld B.p), .int .u64 (cellsN B.G)] ⟨_, rfl⟩ (by kernel_rfl) (by kernel_rfl) (by kernel_rfl) (fun _ => by kernel_rfl) (fun w' hw' => (outside_any B.p (cellsN B.G) m64 w' (TZ.out.below hw' (tab_lt TZ.out)) (by have := hw'.size; have := tab_lt TZ.out; omega)).mono fun e w2 h => ⟨_, h.1, rfl, below_step hw' h.2 (by have := hw'.size; omega)⟩) ?_
    rintro _ rfl
    refine calm_load (some 74) 32 (.tmp 6) (N) 0 _ (by kernel_rfl) (by kernel_rfl) (by kernel_rfl) (by kernel_rfl) (by kernel_rfl) (range_kept zn (by omega)) Tryd.underlying32 rfl (by rw [Fld_length]; exact infoField) ?_
    refine calm_pure (some 75) (by kernel_rfl) (by kernel_rfl) (by kernel_rfl) (fun _ => by rw [← c2]; exact run_eql_fld (x := .tmp 73) (y := .tmp 74) (t := 32) (by kernel_rfl) (by kernel_rfl) (by kernel_rfl) _) ?_
    refine calm_pure (some 76) (by kernel_rfl) (by kernel_rfl) (by kernel_rfl) (fun _ => by kernel_rfl) ?_
    refine calm_end fun w' hw' => plan_do none undef (w'.setCell ⟨w.heap.size + 1, 0, none⟩ (.bool true)) (by kernel_rfl) (by kernel_rfl) (by kernel_rfl) (.inr ⟨run_store_op (x := .tmp 2) (y := .tmp 76) (b := w.heap.size + 1) (o := 0) (v := true) (by kernel_rfl) (by kernel_rfl) (by kernel_rfl) (there_below t1 hw' (by omega)), rfl⟩) trivial (plan_end (Clean.normal ?_))
    have c9 : (w'.setCell ⟨w.heap.size + 1, 0, none⟩ (.bool true)).cell? ⟨w.heap.size + 1, 0, none⟩ = some (.bool true) := World.cell?_setCell_same' _ _ _ (there_below t1 hw' (by omega) 0 (by omega)).1
    have hK9 : (w'.setCell ⟨w.heap.size + 1, 0, none⟩ (.bool true)).heap[D]? = some (.deferred (some [])) := (heap_setCells_other [Value.bool true] hDn (o := 0) (W := w')).trans ((hw'.block D (by omega)).trans hKZ)
    have HB9 := Lib.hid ((HBZ.out.trans (hw'.mono (by have := HBZ.out.size; omega))).setCell (p := ⟨w.heap.size + 1, 0, none⟩) (by simp) (.bool true))
    clear hw'
    simp only [Act.put, List.setIfInBounds_toArray, List.set_cons_zero, List.set_cons_succ]
    go_wp2
    exact ret_marks hK9 (fun W' hc => results_cell_bool rfl Tryd.underlying4 _ _ _ 0 true rfl (hc.cell c9)) (fun W' _ hb => ⟨by rw [← R.out]; rfl, HB9.out.trans (hb _ hwD)⟩)
  case stop =>
    rintro D c pre W2 hD hp ⟨rfl, h1, y, hy, hyb⟩ hB2 hK
    have R := Lib.hid (show r = false by
      rw [← HR.out]
      have hm := mem_bitsL.1 (hp.subset hy)
      have hb : isB B.G y = true := by have := hm.2; rw [cellsN_testBit] at this; simp at this; exact this.2
      rw [all_no y hm.1 (by rw [hb, hyb]; rfl)]
      rfl)
    have HB3 := Lib.hid (HBX.out.trans (hB2.mono (by omega)))
    have hwD : w.heap.size ≤ D := by have := HBX.out.size; omega
    clear hy hyb hB2
    gi_wp2
    exact ret_marks hK (fun W' hc => results_cell_bool rfl Tryd.underlying4 _ _ _ 0 false rfl (hc.cell h1)) (fun W' _ hb => ⟨by rw [R.out], HB3.out.trans (hb _ hwD)⟩)

theorem implValidB_any (B : Brn) (w : World) (hG : BrnOk B) (hT : TabAt w) :
    Calls Tryd.prog 14 #[.agg (BrnA B)] w fun e w' => e = .returned (.bool (brnB B)) ∧ Below w.heap.size w w' := by
  rw [brnB_eq]
  cases h : (validB B.G && (plainB B.r && !tinyB B.r))
  · have hc := implValidB_bad B w hG hT h
    cases hv : validB B.G
    · exact hc
    · cases hr : plainB B.r
      · exact hc
      · have ht : tinyB B.r = true := by simpa [hv, hr] using h
        rw [ht]; exact hc
  · simp only [Bool.and_eq_true, Bool.not_eq_true'] at h
    have hc := implValidB_good B w hG hT h.1 h.2.1 h.2.2
    rw [h.1, h.2.1, h.2.2]
    exact hc
end Go.Proofs.YtikefaollfaejaaDoor
