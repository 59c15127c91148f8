/- RelaxedSweep: the program's and the model's. (The program's: the table of math/bits is laid.) No condition. -/
import Derived.Test.YtdhnneidkdoplaaDoorSwBoth
namespace Go.Proofs.YtdhnneidkdoplaaDoor
open Go.RowKit Go.Shelf
attribute [local go_sem] Oper.semAt_some run_store_float
set_option linter.unusedSimpArgs false
set_option linter.unusedVariables false

/-- The next head in a sweep that moves heads by a share. -/
def nxR (s : Nat) (H : Gd) (k : Nat) : Option Nat := if H.x.toNat.testBit k = true then num .f32 (H.h k) else fop .f32 .add (num .f32 (H.h k)) (fop .f32 .mul (num .f32 s) (fop .f32 .sub (headO H k) (num .f32 (H.h k))))
theorem nxR_fix {s : Nat} {H : Gd} {k : Nat} (h : H.x.toNat.testBit k = true) : nxR s H k = num .f32 (H.h k) := by simp [nxR, h]
theorem nxR_free {s : Nat} {H : Gd} {k : Nat} (h : H.x.toNat.testBit k = false) : nxR s H k = fop .f32 .add (num .f32 (H.h k)) (fop .f32 .mul (num .f32 s) (fop .f32 .sub (headO H k) (num .f32 (H.h k)))) := by simp [nxR, h]
def shB (s : Nat) : Bool := (FloatKind.f32.format.order s 0 == some Ordering.gt || FloatKind.f32.format.order s 0 == some Ordering.eq) && (FloatKind.f32.format.order s 1073741824 == some Ordering.lt || FloatKind.f32.format.order s 1073741824 == some Ordering.eq)

set_option maxRecDepth 100000 in
set_option maxHeartbeats 2000000 in
theorem shareNext_any (H : Gd) (k : Nat) (hk : k < 64) (hv : validB H = true) (hH : GdOk H) (s : Nat) (B b : Nat) (V : World) (hB : GBox V B H) (hc : V.cell? ⟨b, 0, none⟩ = some (.float .f32 s)) :
    Calls Tryd.prog 104 #[.pointer (some ⟨B, 0, none⟩), .int .i64 k, .pointer (some ⟨b, 0, none⟩)] V fun e w' => ∃ r, e = .returned (.float .f32 r) ∧ num .f32 r = nxR s H k ∧ Below V.heap.size V w' := by
  have hbl := World.block_lt_of_cell? V _ hc
  have hBl := hB.lt
  have hg := hB.at'.h
  rw [Nat.zero_add] at hg
  have hh := Grd_fld hg k hk
  have HB := Lib.hid hB
  have HH := Lib.hid hH
  have HV := Lib.hid hv
  have HCc := Lib.hid hc
  clear hB hH hv hg hc
  have hk2 : (k : Int) < 64 := by omega
  cases hf : H.x.toNat.testBit k
  · have HC := Lib.hid (nxR_free (s := s) hf)
    have HF := Lib.hid hf
    clear hf
    have t22 : True := trivial
    have t26 : True := trivial
    have t27 : True := trivial
    go_enter Tryd.func104, Tryd.ntmps104
    go_wp2_with (first | (go_at_call 93; refine (isFixed_is H k hk false HF.out B _ HB.out.at' HH.out).mono ?_; rintro e w' ⟨rfl, rfl⟩) | (go_at_call 65; refine (implHead_any H k hk HV.out B _ HB.out.at' hBl HH.out).mono ?_; rintro e V2 ⟨r20, rfl, hr20, hq⟩; have H20 := Lib.hid hr20; have Q2 := Lib.hid hq; have c3 := fun (n : Nat) => (Quiet.cell (w := V2) (w1 := World.drewN V2 n) ⟨n, rfl⟩ ⟨b, 0, none⟩).trans ((hq.cell (p := ⟨b, 0, none⟩) hbl).trans HCc.out); clear hr20 hq) | (have _t := t22; refine wpList_float rfl _ _ _ _ _ rfl rfl .f32 _ _ rfl rfl ?_; intro r22 n22 hr22; have H22 := Lib.hid hr22; clear t22 hr22) | (have _t := t26; refine wpList_float rfl _ _ _ _ _ rfl rfl .f32 _ _ rfl rfl ?_; intro r26 n26 hr26; have H26 := Lib.hid hr26; clear t26 hr26) | (have _t := t27; refine wpList_float rfl _ _ _ _ _ rfl rfl .f32 _ _ rfl rfl ?_; intro r27 n27 hr27; have H27 := Lib.hid hr27; clear t27 hr27))
    go_ret
    exact ⟨r27, rfl, by rw [H27.out, H26.out, H22.out, H20.out]; exact HC.out.symm, belowN Q2.out _⟩
  · have HC := Lib.hid (nxR_fix (s := s) hf)
    have HF := Lib.hid hf
    clear hf
    go_enter Tryd.func104, Tryd.ntmps104
    go_wp2_with (go_at_call 93; refine (isFixed_is H k hk true HF.out B _ HB.out.at' HH.out).mono ?_; rintro e w' ⟨rfl, rfl⟩)
    go_ret
    exact ⟨_, rfl, HC.out.symm, Below.refl _ _⟩

theorem byShare_any (s : Nat) (w : World) : Calls Tryd.prog 81 #[.float .f32 s] w fun e w' => e = .returned (.func (.func 104) #[] #[.pointer (some ⟨w.heap.size, 0, none⟩)]) ∧ w' = w.alloc (.cells #[.float .f32 s] 23) := by
  have hmf : ∀ (fn : Fn) (first cap : Array Value) (w : World), (Instr.makeFunc fn first cap).run Tryd.prog w = .ok (.func fn first cap) w := fun _ _ _ _ => rfl
  go_enter Tryd.func81, Tryd.ntmps81
  go_wp2
  go_ret
  exact ⟨rfl, rfl⟩
theorem sweptRel_any (G : Gd) (s : Nat) (b : Nat) (w : World) (hv : validB G = true) (hG : GdOk G) (hT : TabAt w) (hb : w.cell? ⟨b, 0, none⟩ = some (.float .f32 s)) :
    Calls Tryd.prog 75 #[.agg (Grd G), .func (.func 104) #[] #[.pointer (some ⟨b, 0, none⟩)]] w fun e w' => e = .returned (sweptV (nxR s) G) ∧ Below w.heap.size w w' :=
  swept_any (nxR s) 104 #[.pointer (some ⟨b, 0, none⟩)] (enters_of Tryd.func104 (by kernel_rfl) rfl) w
    (fun H k V hk _ hvH hGH hBH hwV => shareNext_any H k hk hvH hGH s _ b V hBH ((hwV.cell (p := ⟨b, 0, none⟩) (World.block_lt_of_cell? w _ hb)).trans hb)) G hv hG hT
def relV (G : Gd) (s : Nat) : Value := if validB G = true then (if shB s = true then sweptV (nxR s) G else .tuple #[.agg (Grd zG), .float .f32 0, .int .i64 2]) else .tuple #[.agg (Grd zG), .float .f32 0, .int .i64 1]
theorem relV_is (G : Gd) (s : Nat) : ∃ (A : Gd) (m : Nat) (n : Int), relV G s = .tuple #[.agg (Grd A), .float .f32 m, .int .i64 n] := by
  unfold relV
  split
  · split
    · exact sweptV_is _ _
    · exact ⟨_, _, _, rfl⟩
  · exact ⟨_, _, _, rfl⟩

set_option maxRecDepth 100000 in
set_option maxHeartbeats 2000000 in
theorem implRelaxed_any (G : Gd) (s : Nat) (w : World) (hG : GdOk G) (hT : TabAt w) :
    Calls Tryd.prog 44 #[.agg (Grd G), .float .f32 s] w fun e w' => e = .returned (relV G s) ∧ Below w.heap.size w w' := by
  obtain ⟨EV, hE⟩ : ∃ v, relV G s = v := ⟨_, rfl⟩
  rw [hE]
  have hz := (zero_of_info zeroGround).1
  go_enter Tryd.func44, Tryd.ntmps44
  go_upto_region 1 with (fail)
  obtain ⟨W, hW, zW, g1, g2, hB⟩ := gbox2 G zG 32 32 w
  rw [hW]
  clear hW
  have r1 := g1.range
  have G1 := Lib.hid g1
  have G2 := Lib.hid g2
  have HB := Lib.hid hB
  have HG := Lib.hid hG
  have TW := Lib.hid (hT.below hB (tab_lt hT))
  have hl : w.heap.size + 1 < W.heap.size := by omega
  clear zW g1 g2 hB hG hT
  cases hv : validB G
  · have Hv := Lib.hid hv
    have HE := Lib.hid (show EV = .tuple #[.agg (Grd zG), .float .f32 0, .int .i64 1] by rw [← hE]; simp [relV, hv])
    go_upto_region 2 with (first | (refine ld_stage 32 rfl ?_; refine wpList_load_mid rfl 32 _ rfl (w.heap.size) 0 rfl (GrdL (G)) _ r1 Tryd.underlying32 rfl (by rw [GrdL_length]; exact infoGround) ?_) | (go_at_call 67; have hc := (validGround_any G W HG.out TW.out (tab_lt TW.out)); rw [Hv.out] at hc; refine hc.mono ?_; clear hc; rintro e V ⟨rfl, hb1⟩))
    have P2 := Lib.hid (G2.out.below hb1 hl)
    have B1 := Lib.hid (HB.out.trans (hb1.mono (by omega)))
    have tt := P2.out.there
    clear r1 hb1
    go_wp2_with (refine st_stage 32 rfl ?_; refine wpList_store_mid rfl 32 _ _ rfl _ 0 (Grd (zG)) rfl rfl (by rw [Grd_size]; with_reducible exact tt) (by rw [Grd_size]; exact infoGround) (Grd_one _) ?_)
    refine bodyPost_ret (results_gfn rfl _ _ _ zG 0 1 rfl rfl rfl P2.out.store.range Tryd.underlying32 rfl infoG195) rfl ⟨by rw [HE.out], below_setCells _ (by omega) _ _ _ B1.out⟩
  · have Hv := Lib.hid hv
    cases h1 : (FloatKind.f32.format.order s 0 == some Ordering.gt || FloatKind.f32.format.order s 0 == some Ordering.eq)
    · have hs : shB s = false := by unfold shB; rw [h1]; rfl
      have HE := Lib.hid (show EV = .tuple #[.agg (Grd zG), .float .f32 0, .int .i64 2] by rw [← hE]; simp [relV, hv, hs])
      go_upto_region 4 with (first | (refine ld_stage 32 rfl ?_; refine wpList_load_mid rfl 32 _ rfl (w.heap.size) 0 rfl (GrdL (G)) _ r1 Tryd.underlying32 rfl (by rw [GrdL_length]; exact infoGround) ?_) | (go_at_call 67; have hc := (validGround_any G W HG.out TW.out (tab_lt TW.out)); rw [Hv.out] at hc; refine hc.mono ?_; clear hc; rintro e V ⟨rfl, hb1⟩))
      have P2 := Lib.hid (G2.out.below hb1 hl)
      have B1 := Lib.hid (HB.out.trans (hb1.mono (by omega)))
      have tt := P2.out.there
      clear r1 hb1
      go_wp2_with (refine st_stage 32 rfl ?_; refine wpList_store_mid rfl 32 _ _ rfl _ 0 (Grd (zG)) rfl rfl (by rw [Grd_size]; with_reducible exact tt) (by rw [Grd_size]; exact infoGround) (Grd_one _) ?_)
      refine bodyPost_ret (results_gfn rfl _ _ _ zG 0 2 rfl rfl rfl P2.out.store.range Tryd.underlying32 rfl infoG195) rfl ⟨by rw [HE.out], below_setCells _ (by omega) _ _ _ B1.out⟩
    · cases h2 : (FloatKind.f32.format.order s 1073741824 == some Ordering.lt || FloatKind.f32.format.order s 1073741824 == some Ordering.eq)
      · have hs : shB s = false := by unfold shB; rw [h1, h2]; rfl
        have HE := Lib.hid (show EV = .tuple #[.agg (Grd zG), .float .f32 0, .int .i64 2] by rw [← hE]; simp [relV, hv, hs])
        go_upto_region 4 with (first | (refine ld_stage 32 rfl ?_; refine wpList_load_mid rfl 32 _ rfl (w.heap.size) 0 rfl (GrdL (G)) _ r1 Tryd.underlying32 rfl (by rw [GrdL_length]; exact infoGround) ?_) | (go_at_call 67; have hc := (validGround_any G W HG.out TW.out (tab_lt TW.out)); rw [Hv.out] at hc; refine hc.mono ?_; clear hc; rintro e V ⟨rfl, hb1⟩))
        have P2 := Lib.hid (G2.out.below hb1 hl)
        have B1 := Lib.hid (HB.out.trans (hb1.mono (by omega)))
        have tt := P2.out.there
        clear r1 hb1
        go_wp2_with (refine st_stage 32 rfl ?_; refine wpList_store_mid rfl 32 _ _ rfl _ 0 (Grd (zG)) rfl rfl (by rw [Grd_size]; with_reducible exact tt) (by rw [Grd_size]; exact infoGround) (Grd_one _) ?_)
        refine bodyPost_ret (results_gfn rfl _ _ _ zG 0 2 rfl rfl rfl P2.out.store.range Tryd.underlying32 rfl infoG195) rfl ⟨by rw [HE.out], below_setCells _ (by omega) _ _ _ B1.out⟩
      · have hs : shB s = true := by unfold shB; rw [h1, h2]; rfl
        obtain ⟨A, m, n, hA⟩ := sweptV_is (nxR s) G
        have HA := Lib.hid hA
        have HE := Lib.hid (show EV = .tuple #[.agg (Grd A), .float .f32 m, .int .i64 n] by rw [← hE, ← hA]; simp [relV, hv, hs])
        clear hv hE hA
        go_upto_region 5 with (first | (refine ld_stage 32 rfl ?_; refine wpList_load_mid rfl 32 _ rfl (w.heap.size) 0 rfl (GrdL (G)) _ r1 Tryd.underlying32 rfl (by rw [GrdL_length]; exact infoGround) ?_) | (go_at_call 67; have hc := (validGround_any G W HG.out TW.out (tab_lt TW.out)); rw [Hv.out] at hc; refine hc.mono ?_; clear hc; rintro e V ⟨rfl, hb1⟩))
        have r2 := range_kept r1 (by omega) _ hb1
        have P2 := Lib.hid (G2.out.below hb1 hl)
        have TV := Lib.hid (TW.out.below hb1 (tab_lt TW.out))
        have B1 := Lib.hid (HB.out.trans (hb1.mono (by omega)))
        have hlV := hb1.size
        clear r1 hb1
        have rG := r2
        refine wp_region_plan (ops' := regOf Tryd.f44 5) (.take 0 (.take 1 (.run 2 (.run 3 (.take 4 (.take 5 (.take 6 (.run 7 (.take 8 (.take 9 .fin)))))))))) (Below (w.heap.size + 1) V) (by kernel_rfl) (by kernel_rfl) (by kernel_rfl) (by kernel_rfl) (by kernel_rfl) (Below.refl _ _).drew ?_
        obtain ⟨Z, hZ⟩ : ∃ Z, V.drew = Z := ⟨_, rfl⟩
        have qZ : Quiet V Z := by rw [← hZ]; exact (Quiet.refl _).drewN 1
        rw [hZ]
        clear hZ
        refine plan_load (some 19) 32 (.tmp 2) w.heap.size 0 (GrdL G) _ (by kernel_rfl) (by kernel_rfl) (by kernel_rfl) (by kernel_rfl) (by kernel_rfl) (fun w' hw' => range_kept (n := w.heap.size + 1) rG (by omega) _ hw') Tryd.underlying32 rfl (by rw [GrdL_length]; exact infoGround) ?_
        refine plan_pure (some 20) (.float .f32 s) (by kernel_rfl) (by kernel_rfl) (by kernel_rfl) (fun _ => by kernel_rfl) ?_
        refine plan_call (some 21) 81 #[.float .f32 s] (by kernel_rfl) (by kernel_rfl) (by kernel_rfl) (by kernel_rfl) ((byShare_any s Z).mono ?_)
        rintro e w2 ⟨rfl, rfl⟩
        obtain ⟨U, hU⟩ : ∃ U, Z.alloc (.cells #[.float .f32 s] 23) = U := ⟨_, rfl⟩
        have hbU : Below Z.heap.size Z U := by rw [← hU]; exact (Below.refl _ _).alloc (Nat.le_refl _) _
        have hcU : U.cell? ⟨Z.heap.size, 0, none⟩ = some (.float .f32 s) := by rw [← hU]; exact cell_of_row _ _ 0 _ _ _ (heap_alloc_last Z _)
        have zU : Z.heap.size < U.heap.size := by rw [← hU]; simp
        have zZ := qZ.size
        have BU : Below V.heap.size V U := (qZ.below _).trans (hbU.mono (by omega))
        rw [hU]
        clear hU
        refine ⟨_, rfl, BU.mono (by omega), plan_call (some 22) 75 #[.agg (Grd G), .func (.func 104) #[] #[.pointer (some ⟨Z.heap.size, 0, none⟩)]] (by kernel_rfl) (by kernel_rfl) (by kernel_rfl) (by kernel_rfl) ?_⟩
        have hc := sweptRel_any G s Z.heap.size U Hv.out HG.out (TV.out.below BU (tab_lt TV.out)) hcU
        rw [HA.out] at hc
        refine hc.mono ?_
        clear hc
        rintro e w3 ⟨rfl, hb3⟩
        have B3 : Below V.heap.size V w3 := BU.trans (hb3.mono BU.size)
        have P3 := Lib.hid (P2.out.below B3 (by omega))
        have HB3 := Lib.hid (B1.out.trans (B3.mono (by omega)))
        refine ⟨_, rfl, B3.mono (by omega), plan_pure (some 23) (.agg (Grd A)) (by kernel_rfl) (by kernel_rfl) (by kernel_rfl) (fun _ => by kernel_rfl) (plan_pure (some 24) (.float .f32 m) (by kernel_rfl) (by kernel_rfl) (by kernel_rfl) (fun _ => by kernel_rfl) (plan_pure (some 25) (.int .i64 n) (by kernel_rfl) (by kernel_rfl) (by kernel_rfl) (fun _ => by kernel_rfl) (plan_do none undef (w3.setCells (w.heap.size + 1) 0 (Grd A).toList) (by kernel_rfl) (by kernel_rfl) (by kernel_rfl) (.inr ⟨store_op (x := .tmp 4) (y := .tmp 23) (cs := Grd A) (by kernel_rfl) (by kernel_rfl) (by kernel_rfl) (by rw [Grd_size]; exact P3.out.there) (by rw [Grd_size]; exact infoGround) (Grd_one _), rfl⟩) (below_setCells _ (Nat.le_refl _) _ _ _ (B3.mono (by omega))) (plan_pure (some 5) (.float .f32 m) (by kernel_rfl) (by kernel_rfl) (by kernel_rfl) (fun _ => by kernel_rfl) (plan_pure (some 6) (.int .i64 n) (by kernel_rfl) (by kernel_rfl) (by kernel_rfl) (fun _ => by kernel_rfl) (plan_end (NoPanic.normal ?_)))))))⟩
        simp only [Act.put, List.setIfInBounds_toArray, List.set_cons_zero, List.set_cons_succ]
        go_wp2
        refine bodyPost_ret (results_gfn rfl _ _ _ A m n rfl rfl rfl P3.out.store.range Tryd.underlying32 rfl infoG195) rfl ⟨by rw [HE.out], below_setCells _ (by omega) _ _ _ HB3.out⟩

set_option maxRecDepth 100000 in
set_option maxHeartbeats 2000000 in
theorem specRelaxed_any (G : Gd) (s : Nat) (w : World) (hG : GdOk G) :
    Calls Tryd.prog 43 #[.agg (Grd G), .float .f32 s] w fun e w' => e = .returned (relV G s) ∧ Below w.heap.size w w' := by
  have hz := (zero_of_info zeroGround).1
  go_enter Tryd.func43, Tryd.ntmps43
  go_upto_region 1 with (fail)
  obtain ⟨W, hW, zW, g1, g2, hB⟩ := gbox2 G zG 32 32 w
  rw [hW]
  clear hW
  have G1 := Lib.hid g1
  have G2 := Lib.hid g2
  have HB := Lib.hid hB
  have HG := Lib.hid hG
  clear g1 g2 hB hG
  cases hv : validB G
  · have Hv := Lib.hid hv
    have HR := Lib.hid (show relV G s = .tuple #[.agg (Grd zG), .float .f32 0, .int .i64 1] by simp [relV, hv])
    go_wp2_with (first | (go_at_call 49; have hc := (l01Ok_any G w.heap.size W G1.out.at' HG.out); rw [Hv.out] at hc; refine hc.mono ?_; clear hc; rintro e w' ⟨rfl, n1, rfl⟩; have S1 := Lib.hid (G1.out.below (Quiet.below ⟨n1, rfl⟩ (w.heap.size + 2) : Below (w.heap.size + 2) W (World.drewN W n1)) (by omega)); have S2 := Lib.hid (G2.out.below (Quiet.below ⟨n1, rfl⟩ (w.heap.size + 2) : Below (w.heap.size + 2) W (World.drewN W n1)) (by omega)); have t1 := S2.out.there; have BW := Lib.hid (HB.out.trans (Quiet.below ⟨n1, rfl⟩ _) : Below w.heap.size w (World.drewN W n1))) | (refine st_stage 32 rfl ?_; refine wpList_store_mid rfl 32 _ _ rfl _ 0 (Grd (zG)) rfl rfl (by rw [Grd_size]; with_reducible exact t1) (by rw [Grd_size]; exact infoGround) (Grd_one _) ?_))
    refine bodyPost_ret (results_gfn rfl _ _ _ zG 0 1 rfl rfl rfl S2.out.store.range Tryd.underlying32 rfl infoG195) rfl ⟨by rw [HR.out], below_setCells _ (by omega) _ _ _ BW.out⟩
  · have Hv := Lib.hid hv
    cases h1 : (FloatKind.f32.format.order s 0 == some Ordering.gt || FloatKind.f32.format.order s 0 == some Ordering.eq)
    · have hs : shB s = false := by unfold shB; rw [h1]; rfl
      have HR := Lib.hid (show relV G s = .tuple #[.agg (Grd zG), .float .f32 0, .int .i64 2] by simp [relV, hv, hs])
      go_wp2_with (first | (go_at_call 49; have hc := (l01Ok_any G w.heap.size W G1.out.at' HG.out); rw [Hv.out] at hc; refine hc.mono ?_; clear hc; rintro e w' ⟨rfl, n1, rfl⟩; have S1 := Lib.hid (G1.out.below (Quiet.below ⟨n1, rfl⟩ (w.heap.size + 2) : Below (w.heap.size + 2) W (World.drewN W n1)) (by omega)); have S2 := Lib.hid (G2.out.below (Quiet.below ⟨n1, rfl⟩ (w.heap.size + 2) : Below (w.heap.size + 2) W (World.drewN W n1)) (by omega)); have t1 := S2.out.there; have BW := Lib.hid (HB.out.trans (Quiet.below ⟨n1, rfl⟩ _) : Below w.heap.size w (World.drewN W n1))) | (refine st_stage 32 rfl ?_; refine wpList_store_mid rfl 32 _ _ rfl _ 0 (Grd (zG)) rfl rfl (by rw [Grd_size]; with_reducible exact t1) (by rw [Grd_size]; exact infoGround) (Grd_one _) ?_))
      refine bodyPost_ret (results_gfn rfl _ _ _ zG 0 2 rfl rfl rfl S2.out.store.range Tryd.underlying32 rfl infoG195) rfl ⟨by rw [HR.out], below_setCells _ (by omega) _ _ _ BW.out⟩
    · cases h2 : (FloatKind.f32.format.order s 1073741824 == some Ordering.lt || FloatKind.f32.format.order s 1073741824 == some Ordering.eq)
      · have hs : shB s = false := by unfold shB; rw [h1, h2]; rfl
        have HR := Lib.hid (show relV G s = .tuple #[.agg (Grd zG), .float .f32 0, .int .i64 2] by simp [relV, hv, hs])
        go_wp2_with (first | (go_at_call 49; have hc := (l01Ok_any G w.heap.size W G1.out.at' HG.out); rw [Hv.out] at hc; refine hc.mono ?_; clear hc; rintro e w' ⟨rfl, n1, rfl⟩; have S1 := Lib.hid (G1.out.below (Quiet.below ⟨n1, rfl⟩ (w.heap.size + 2) : Below (w.heap.size + 2) W (World.drewN W n1)) (by omega)); have S2 := Lib.hid (G2.out.below (Quiet.below ⟨n1, rfl⟩ (w.heap.size + 2) : Below (w.heap.size + 2) W (World.drewN W n1)) (by omega)); have t1 := S2.out.there; have BW := Lib.hid (HB.out.trans (Quiet.below ⟨n1, rfl⟩ _) : Below w.heap.size w (World.drewN W n1))) | (refine st_stage 32 rfl ?_; refine wpList_store_mid rfl 32 _ _ rfl _ 0 (Grd (zG)) rfl rfl (by rw [Grd_size]; with_reducible exact t1) (by rw [Grd_size]; exact infoGround) (Grd_one _) ?_))
        refine bodyPost_ret (results_gfn rfl _ _ _ zG 0 2 rfl rfl rfl S2.out.store.range Tryd.underlying32 rfl infoG195) rfl ⟨by rw [HR.out], below_setCells _ (by omega) _ _ _ BW.out⟩
      · have hs : shB s = true := by unfold shB; rw [h1, h2]; rfl
        have HR := Lib.hid (show relV G s = sweptV (nxR s) G by simp [relV, hv, hs])
        clear hv
        go_upto_region 5 with (go_at_call 49; have hc := (l01Ok_any G w.heap.size W G1.out.at' HG.out); rw [Hv.out] at hc; refine hc.mono ?_; clear hc; rintro e w' ⟨rfl, n, rfl⟩)
        clear h1 h2 hs
        obtain ⟨V, hV⟩ : ∃ V, World.drewN W n = V := ⟨_, rfl⟩
        have qV : Quiet W V := by rw [← hV]; exact ⟨n, rfl⟩
        rw [hV]
        have G1 := Lib.hid (G1.out.below (qV.below (w.heap.size + 2)) (by omega))
        have G2 := Lib.hid (G2.out.below (qV.below (w.heap.size + 2)) (by omega))
        have HB := Lib.hid (HB.out.trans (qV.below _))
        have zV : w.heap.size + 1 < V.heap.size := by have := qV.size; omega
        have r1 := G1.out.range
        have hnt := new_thereG 32 V
        clear hV qV
        go_upto_region 6 with (first | (refine ld_stage 32 rfl ?_; refine wpList_load_mid rfl 32 _ rfl (w.heap.size) 0 rfl (GrdL (G)) _ r1 Tryd.underlying32 rfl (by rw [GrdL_length]; exact infoGround) ?_) | (refine st_stage 32 rfl ?_; refine wpList_store_mid rfl 32 _ _ rfl _ 0 (Grd (G)) rfl rfl (by rw [Grd_size]; with_reducible exact hnt) (by rw [Grd_size]; exact infoGround) (Grd_one _) ?_))
        obtain ⟨U, hU, zU, gU, bU⟩ := stored_box G 32 V
        rw [hU]
        have P1 := Lib.hid (G1.out.below bU (by omega))
        have P2 := Lib.hid (G2.out.below bU (by omega))
        have P0 := Lib.hid gU
        have PB := Lib.hid (HB.out.trans (bU.mono (by omega)))
        have PM := Lib.hid (Mst.start (nxR s) G)
        clear r1 hnt hU zU gU bU
        go_wp2
        go_loopw [8] (fun i wr => ∃ (k : Nat) (O : Gd), k ≤ 64 ∧ i = .int .i64 k ∧ Hid (Mst (nxR s) G k O) ∧ Hid (GBox wr V.heap.size O) ∧ Hid (GBox wr w.heap.size G) ∧ Hid (GBox wr (w.heap.size + 1) zG) ∧ Hid (Below w.heap.size w wr)) (fun i _ => 64 - (intOf i).toNat)
        case atStart => exact ⟨0, G, by omega, rfl, PM, P0, P1, P2, PB⟩
        case round =>
          clear P0 P1 P2 PB PM
          obtain ⟨k, O, hk, rfl, M, Q0, Q1, Q2, QB⟩ := hrel
          have zr := Q0.out.lt
          by_cases hlt : k < 64
          · have hk2 : (k : Int) < 64 := by omega
            cases hi : isB G k
            · have Hi := Lib.hid hi
              clear hi
              go_wp2_with (go_at_call 51; refine (l01Is_is G k hlt false Hi.out _ _ Q1.out.at' HG.out).mono ?_; rintro e w' ⟨rfl, rfl⟩)
              go_roundw
              case rel => exact ⟨k + 1, O, by omega, by go_num, Lib.hid (M.out.skip Hi.out), Q0, Q1, Q2, QB⟩
              case measure => simp [intOf]; omega
            · have Hi := Lib.hid hi
              clear hi
              cases hf : G.x.toNat.testBit k
              · have Hf := Lib.hid hf
                have HC := Lib.hid (nxR_free (s := s) (show O.x.toNat.testBit k = false by rw [M.out.x]; exact hf))
                clear hf
                have hg := Q0.out.at'.h
                rw [Nat.zero_add] at hg
                have hh := Grd_fld hg k hlt
                clear hg
                have t46 : True := trivial
                have t47 : True := trivial
                have t48 : True := trivial
                go_wp2_with (first | (go_at_call 51; refine (l01Is_is G k hlt true Hi.out _ _ Q1.out.at' HG.out).mono ?_; rintro e w' ⟨rfl, rfl⟩) | (go_at_call 52; refine (l01Fixed_is G k hlt false Hf.out _ _ Q1.out.at' HG.out).mono ?_; rintro e w' ⟨rfl, rfl⟩) | (go_at_call 61; refine (l02Head_ext O k hlt (M.out.ext Hv.out) V.heap.size _ Q0.out.at' (M.out.ok HG.out)).mono ?_; rintro e w1 ⟨r40, rfl, hr, hq⟩; have H40 := Lib.hid hr; have S0 := Lib.hid (fun (_ : Nat) => Q0.out.below (hq.below (V.heap.size + 1)) (by omega)); have S1 := Lib.hid (fun (_ : Nat) => Q1.out.below (hq.below (V.heap.size + 1)) (by omega)); have S2 := Lib.hid (fun (_ : Nat) => Q2.out.below (hq.below (V.heap.size + 1)) (by omega)); have SB := Lib.hid (fun (_ : Nat) => QB.out.trans (hq.below _)); clear hr hq) | (have _t := t46; refine wpList_float rfl _ _ _ _ _ rfl rfl .f32 _ _ rfl rfl ?_; intro r46 n46 hr46; have H46 := Lib.hid hr46; clear t46 hr46) | (have _t := t47; refine wpList_float rfl _ _ _ _ _ rfl rfl .f32 _ _ rfl rfl ?_; intro r47 n47 hr47; have H47 := Lib.hid hr47; clear t47 hr47) | (have _t := t48; refine wpList_float rfl _ _ _ _ _ rfl rfl .f32 _ _ rfl rfl ?_; intro r48 n48 hr48; have H48 := Lib.hid hr48; obtain ⟨X, hX⟩ : ∃ X, World.drewN (World.drewN (World.drewN w1 n46) n47) n48 = X := ⟨_, rfl⟩; have qX : Quiet w1 X := (by rw [← hX]; exact (((Quiet.refl w1).drewN n46).drewN n47).drewN n48); rw [hX]; have R0 := Lib.hid ((S0.out 0).below (qX.below (V.heap.size + 1)) (by omega)); have R1 := Lib.hid ((S1.out 0).below (qX.below (V.heap.size + 1)) (by omega)); have R2 := Lib.hid ((S2.out 0).below (qX.below (V.heap.size + 1)) (by omega)); have RB := Lib.hid ((SB.out 0).trans (qX.below _)); have b0 := R0.out.at_some (130 + k) (by omega); obtain ⟨u, hu⟩ := Option.isSome_iff_exists.1 b0; have f0 := R0.out.free (130 + k) (by omega); clear t48 hr48 hX qX b0 S0 S1 S2 SB))
                go_roundw
                case rel => exact ⟨k + 1, putHd O k r48, by omega, by go_num, Lib.hid (M.out.put Hi.out (by rw [H48.out, H47.out, H46.out, H40.out]; exact HC.out.symm)), Lib.hid (R0.out.putH hlt), Lib.hid (R1.out.far (by omega)), Lib.hid (R2.out.far (by omega)), Lib.hid (RB.out.setCell (p := ⟨V.heap.size, 130 + k, none⟩) (by show w.heap.size ≤ V.heap.size; omega) _)⟩
                case measure => simp [intOf]; omega
              · have Hf := Lib.hid hf
                have HC := Lib.hid (nxR_fix (s := s) (show O.x.toNat.testBit k = true by rw [M.out.x]; exact hf))
                clear hf
                go_wp2_with (first | (go_at_call 51; refine (l01Is_is G k hlt true Hi.out _ _ Q1.out.at' HG.out).mono ?_; rintro e w' ⟨rfl, rfl⟩) | (go_at_call 52; refine (l01Fixed_is G k hlt true Hf.out _ _ Q1.out.at' HG.out).mono ?_; rintro e w' ⟨rfl, rfl⟩))
                go_roundw
                case rel => exact ⟨k + 1, O, by omega, by go_num, Lib.hid (M.out.keep Hi.out HC.out.symm), Q0, Q1, Q2, QB⟩
                case measure => simp [intOf]; omega
          · obtain rfl : k = 64 := by omega
            have hE := M.out.endV Hv.out HG.out
            obtain ⟨A, m, n, hA⟩ := sweptV_is (nxR s) G
            have HR := Lib.hid (HR.out.trans hA)
            rw [hA] at hE
            have HE := Lib.hid hE
            clear hA hE
            go_wp2_with (first | (go_at_call 74; have hc := l02Swept_any G O HG.out (M.out.ok HG.out) Hv.out (fun i => M.out.isB i) w.heap.size V.heap.size wr Q1.out Q0.out; rw [HE.out] at hc; refine hc.mono ?_; clear hc; rintro e w1 ⟨rfl, hq⟩; have SR := Lib.hid (Q2.out.below hq (by omega)); have t1 := SR.out.there; have SB := Lib.hid (QB.out.trans (hq.mono (by omega))); clear hq) | (refine st_stage 32 rfl ?_; refine wpList_store_mid rfl 32 _ _ rfl _ 0 (Grd (A)) rfl rfl (by rw [Grd_size]; with_reducible exact t1) (by rw [Grd_size]; exact infoGround) (Grd_one _) ?_))
            refine bodyPost_ret (results_gfn rfl _ _ _ A m n rfl rfl rfl SR.out.store.range Tryd.underlying32 rfl infoG195) rfl ⟨by rw [HR.out], below_setCells _ (by omega) _ _ _ SB.out⟩
end Go.Proofs.YtdhnneidkdoplaaDoor
