/- SweepColour: the program's and the model's. (The program's: the table of math/bits is laid.) No condition. -/
import Derived.Test.YtdhnneidkdoplaaDoorMsO
namespace Go.Proofs.YtdhnneidkdoplaaDoor
open Go.RowKit Go.Shelf
attribute [local go_sem] Oper.semAt_some run_store_float
set_option linter.unusedSimpArgs false
set_option linter.unusedVariables false

set_option maxRecDepth 100000 in
set_option maxHeartbeats 2000000 in
theorem colourNext_any (H : Gd) (k : Nat) (hk : k < 64) (hv : validB H = true) (hH : GdOk H) (c : Int) (hc0 : 0 ≤ c) (B b : Nat) (V : World) (hB : GBox V B H) (hc : V.cell? ⟨b, 0, none⟩ = some (.int .i64 c)) :
    Calls Tryd.prog 102 #[.pointer (some ⟨B, 0, none⟩), .int .i64 k, .pointer (some ⟨b, 0, none⟩)] V fun e w' => ∃ r, e = .returned (.float .f32 r) ∧ num .f32 r = nxC c H k ∧ Below V.heap.size V w' := by
  have HB := Lib.hid hB
  have HH := Lib.hid hH
  have HV := Lib.hid hv
  have hbl := World.block_lt_of_cell? V _ hc
  have hBl := hB.lt
  clear hB hH hv
  have hk2 : (k : Int) < 64 := by omega
  have hn : ¬ c < 0 := by omega
  cases hcb : colB c k
  · have HC := Lib.hid (nxC_no (H := H) hcb)
    have hne2 : ¬ ((k : Int) % 8 + (k : Int) / 8) % 2 = c := by
      have h1 : ¬ (((k % 8 + k / 8) % 2 : Nat) : Int) = c := by
        intro h
        simp [colB, h] at hcb
      omega
    have hne : (((k : Int) % 8 + (k : Int) / 8) % 2 == c) = false := by simpa using hne2
    clear hcb
    go_enter Tryd.func102, Tryd.ntmps102
    go_wp2_with (go_at_call 103; have hp := placeOf_nat k hk V; simp only [Plc] at hp; refine hp.mono ?_; clear hp; rintro e V1 ⟨rfl, hb1⟩; have g1 := HB.out.below hb1 hBl; have hg := fun o => (g1.below ((Below.refl V1.heap.size V1).alloc (Nat.le_refl _) o) g1.lt).at'.h; simp only [Nat.zero_add] at hg; have hh := fun o => Grd_fld (hg o) k hk; have c1 := fun o => (((Below.refl V1.heap.size V1).alloc (Nat.le_refl _) o).cell (p := ⟨b, 0, none⟩) (by show b < _; have := hb1.size; omega)).trans ((hb1.cell (p := ⟨b, 0, none⟩) hbl).trans hc); have Q1 := Lib.hid hb1; clear hb1 g1 hg)
    go_ret
    exact ⟨_, rfl, HC.out.symm, Q1.out.alloc Q1.out.size _⟩
  · have HC := Lib.hid (nxC_yes (H := H) hcb)
    have heq2 : ((k : Int) % 8 + (k : Int) / 8) % 2 = c := by
      have h1 : (((k % 8 + k / 8) % 2 : Nat) : Int) = c := by simpa [colB, hn] using hcb
      omega
    have heq : (((k : Int) % 8 + (k : Int) / 8) % 2 == c) = true := by simpa using heq2
    have HE2 := Lib.hid heq2
    clear hcb heq2
    go_enter Tryd.func102, Tryd.ntmps102
    go_wp2_with (first | (go_at_call 103; have hp := placeOf_nat k hk V; simp only [Plc] at hp; refine hp.mono ?_; clear hp; rintro e V1 ⟨rfl, hb1⟩; have g1 := HB.out.below hb1 hBl; have G2 := Lib.hid (fun o => g1.below ((Below.refl V1.heap.size V1).alloc (Nat.le_refl _) o) g1.lt); have c1 := fun o => (((Below.refl V1.heap.size V1).alloc (Nat.le_refl _) o).cell (p := ⟨b, 0, none⟩) (by show b < _; have := hb1.size; omega)).trans ((hb1.cell (p := ⟨b, 0, none⟩) hbl).trans hc); have Q1 := Lib.hid hb1; clear hb1 g1) | (go_at_call 65; refine (implHead_any H k hk HV.out B _ (G2.out _).at' (G2.out _).lt HH.out).mono ?_; rintro e V2 ⟨r, rfl, hr, hq⟩; have HR := Lib.hid hr; have Q2 := Lib.hid ((Q1.out.alloc Q1.out.size _).trans (hq.mono (Q1.out.alloc Q1.out.size _).size)); clear hr hq))
    go_ret
    exact ⟨_, rfl, HR.out.trans HC.out.symm, Q2.out⟩

theorem ofColour_any (c : Int) (w : World) : Calls Tryd.prog 79 #[.int .i64 c] w fun e w' => e = .returned (.func (.func 102) #[] #[.pointer (some ⟨w.heap.size, 0, none⟩)]) ∧ w' = w.alloc (.cells #[.int .i64 c] 2) := by
  have hmf : ∀ (fn : Fn) (first cap : Array Value) (w : World), (Instr.makeFunc fn first cap).run Tryd.prog w = .ok (.func fn first cap) w := fun _ _ _ _ => rfl
  go_enter Tryd.func79, Tryd.ntmps79
  go_wp2
  go_ret
  exact ⟨rfl, rfl⟩
theorem sweptCol_any (G : Gd) (c : Int) (hc0 : 0 ≤ c) (b : Nat) (w : World) (hv : validB G = true) (hG : GdOk G) (hT : TabAt w) (hb : w.cell? ⟨b, 0, none⟩ = some (.int .i64 c)) :
    Calls Tryd.prog 75 #[.agg (Grd G), .func (.func 102) #[] #[.pointer (some ⟨b, 0, none⟩)]] w fun e w' => e = .returned (sweptV (nxC c) G) ∧ Below w.heap.size w w' :=
  swept_any (nxC c) 102 #[.pointer (some ⟨b, 0, none⟩)] (enters_of Tryd.func102 (by kernel_rfl) rfl) w
    (fun H k V hk _ hvH hGH hBH hwV => colourNext_any H k hk hvH hGH c hc0 _ b V hBH ((hwV.cell (p := ⟨b, 0, none⟩) (World.block_lt_of_cell? w _ hb)).trans hb)) G hv hG hT
/-- What the sweep of a colour hands back. -/
def colV (G : Gd) (c : Int) : Value := if validB G = true then (if c = 0 ∨ c = 1 then sweptV (nxC c) G else .tuple #[.agg (Grd zG), .float .f32 0, .int .i64 2]) else .tuple #[.agg (Grd zG), .float .f32 0, .int .i64 1]
theorem colV_is (G : Gd) (c : Int) : ∃ (A : Gd) (m : Nat) (n : Int), colV G c = .tuple #[.agg (Grd A), .float .f32 m, .int .i64 n] := by
  unfold colV
  split
  · split
    · exact sweptV_is _ _
    · exact ⟨_, _, _, rfl⟩
  · exact ⟨_, _, _, rfl⟩

set_option maxRecDepth 100000 in
set_option maxHeartbeats 2000000 in
theorem implColour_any (G : Gd) (c : Int) (w : World) (hG : GdOk G) (hT : TabAt w) :
    Calls Tryd.prog 40 #[.agg (Grd G), .int .i64 c] w fun e w' => e = .returned (colV G c) ∧ Below w.heap.size w w' := by
  obtain ⟨EV, hE⟩ : ∃ v, colV G c = v := ⟨_, rfl⟩
  rw [hE]
  have hz := (zero_of_info zeroGround).1
  go_enter Tryd.func40, Tryd.ntmps40
  go_upto_region 1 with (fail)
  obtain ⟨W, hW, zW, g1, g2, hB⟩ := gbox2 G zG 32 32 w
  rw [hW]
  clear hW
  have r1 := g1.range
  have G1 := Lib.hid g1
  have G2 := Lib.hid g2
  have HB := Lib.hid hB
  have HG := Lib.hid hG
  have TW := Lib.hid (hT.below hB (tab_lt hT))
  have hl : w.heap.size + 1 < W.heap.size := by omega
  clear zW g1 g2 hB hG hT
  cases hv : validB G
  · have Hv := Lib.hid hv
    have HE := Lib.hid (show EV = .tuple #[.agg (Grd zG), .float .f32 0, .int .i64 1] by rw [← hE]; simp [colV, hv])
    go_upto_region 2 with (first | (refine ld_stage 32 rfl ?_; refine wpList_load_mid rfl 32 _ rfl (w.heap.size) 0 rfl (GrdL (G)) _ r1 Tryd.underlying32 rfl (by rw [GrdL_length]; exact infoGround) ?_) | (go_at_call 67; have hc := (validGround_any G W HG.out TW.out (tab_lt TW.out)); rw [Hv.out] at hc; refine hc.mono ?_; clear hc; rintro e V ⟨rfl, hb1⟩))
    have P2 := Lib.hid (G2.out.below hb1 hl)
    have B1 := Lib.hid (HB.out.trans (hb1.mono (by omega)))
    have tt := P2.out.there
    clear r1 hb1
    go_wp2_with (refine st_stage 32 rfl ?_; refine wpList_store_mid rfl 32 _ _ rfl _ 0 (Grd (zG)) rfl rfl (by rw [Grd_size]; with_reducible exact tt) (by rw [Grd_size]; exact infoGround) (Grd_one _) ?_)
    refine bodyPost_ret (results_gfn rfl _ _ _ zG 0 1 rfl rfl rfl P2.out.store.range Tryd.underlying32 rfl infoG195) rfl ⟨by rw [HE.out], below_setCells _ (by omega) _ _ _ B1.out⟩
  · have Hv := Lib.hid hv
    by_cases h0 : c = 0 ∨ c = 1
    · obtain ⟨A, m, n, hA⟩ := sweptV_is (nxC c) G
      have HA := Lib.hid hA
      have HE := Lib.hid (show EV = .tuple #[.agg (Grd A), .float .f32 m, .int .i64 n] by rw [← hE, ← hA]; simp [colV, hv, h0])
      clear hv hE hA
      have hc0 : 0 ≤ c := by omega
      rcases h0 with rfl | rfl
      · skip
        go_upto_region 5 with (first | (refine ld_stage 32 rfl ?_; refine wpList_load_mid rfl 32 _ rfl (w.heap.size) 0 rfl (GrdL (G)) _ r1 Tryd.underlying32 rfl (by rw [GrdL_length]; exact infoGround) ?_) | (go_at_call 67; have hc := (validGround_any G W HG.out TW.out (tab_lt TW.out)); rw [Hv.out] at hc; refine hc.mono ?_; clear hc; rintro e V ⟨rfl, hb1⟩))
        have r2 := range_kept r1 (by omega) _ hb1
        have P2 := Lib.hid (G2.out.below hb1 hl)
        have TV := Lib.hid (TW.out.below hb1 (tab_lt TW.out))
        have B1 := Lib.hid (HB.out.trans (hb1.mono (by omega)))
        have hlV := hb1.size
        clear r1 hb1
        have rG := r2
        refine wp_region_plan (ops' := regOf Tryd.f40 5) (.take 0 (.take 1 (.run 2 (.run 3 (.take 4 (.take 5 (.take 6 (.run 7 (.take 8 (.take 9 .fin)))))))))) (Below (w.heap.size + 1) V) (by kernel_rfl) (by kernel_rfl) (by kernel_rfl) (by kernel_rfl) (by kernel_rfl) (Below.refl _ _).drew ?_
        obtain ⟨Z, hZ⟩ : ∃ Z, V.drew = Z := ⟨_, rfl⟩
        have qZ : Quiet V Z := by rw [← hZ]; exact (Quiet.refl _).drewN 1
        rw [hZ]
        clear hZ
        refine plan_load (some 18) 32 (.tmp 2) w.heap.size 0 (GrdL G) _ (by kernel_rfl) (by kernel_rfl) (by kernel_rfl) (by kernel_rfl) (by kernel_rfl) (fun w' hw' => range_kept (n := w.heap.size + 1) rG (by omega) _ hw') Tryd.underlying32 rfl (by rw [GrdL_length]; exact infoGround) ?_
        refine plan_pure (some 19) (.int .i64 0) (by kernel_rfl) (by kernel_rfl) (by kernel_rfl) (fun _ => by kernel_rfl) ?_
        refine plan_call (some 20) 79 #[.int .i64 0] (by kernel_rfl) (by kernel_rfl) (by kernel_rfl) (by kernel_rfl) ((ofColour_any 0 Z).mono ?_)
        rintro e w2 ⟨rfl, rfl⟩
        obtain ⟨U, hU⟩ : ∃ U, Z.alloc (.cells #[.int .i64 0] 2) = U := ⟨_, rfl⟩
        have hbU : Below Z.heap.size Z U := by rw [← hU]; exact (Below.refl _ _).alloc (Nat.le_refl _) _
        have hcU : U.cell? ⟨Z.heap.size, 0, none⟩ = some (.int .i64 0) := by rw [← hU]; exact cell_of_row _ _ 0 _ _ _ (heap_alloc_last Z _)
        have zU : Z.heap.size < U.heap.size := by rw [← hU]; simp
        have zZ := qZ.size
        have BU : Below V.heap.size V U := (qZ.below _).trans (hbU.mono (by omega))
        rw [hU]
        clear hU
        refine ⟨_, rfl, BU.mono (by omega), plan_call (some 21) 75 #[.agg (Grd G), .func (.func 102) #[] #[.pointer (some ⟨Z.heap.size, 0, none⟩)]] (by kernel_rfl) (by kernel_rfl) (by kernel_rfl) (by kernel_rfl) ?_⟩
        have hc := sweptCol_any G 0 (by omega) Z.heap.size U Hv.out HG.out (TV.out.below BU (tab_lt TV.out)) hcU
        rw [HA.out] at hc
        refine hc.mono ?_
        clear hc
        rintro e w3 ⟨rfl, hb3⟩
        have B3 : Below V.heap.size V w3 := BU.trans (hb3.mono BU.size)
        have P3 := Lib.hid (P2.out.below B3 (by omega))
        have HB3 := Lib.hid (B1.out.trans (B3.mono (by omega)))
        refine ⟨_, rfl, B3.mono (by omega), plan_pure (some 22) (.agg (Grd A)) (by kernel_rfl) (by kernel_rfl) (by kernel_rfl) (fun _ => by kernel_rfl) (plan_pure (some 23) (.float .f32 m) (by kernel_rfl) (by kernel_rfl) (by kernel_rfl) (fun _ => by kernel_rfl) (plan_pure (some 24) (.int .i64 n) (by kernel_rfl) (by kernel_rfl) (by kernel_rfl) (fun _ => by kernel_rfl) (plan_do none undef (w3.setCells (w.heap.size + 1) 0 (Grd A).toList) (by kernel_rfl) (by kernel_rfl) (by kernel_rfl) (.inr ⟨store_op (x := .tmp 4) (y := .tmp 22) (cs := Grd A) (by kernel_rfl) (by kernel_rfl) (by kernel_rfl) (by rw [Grd_size]; exact P3.out.there) (by rw [Grd_size]; exact infoGround) (Grd_one _), rfl⟩) (below_setCells _ (Nat.le_refl _) _ _ _ (B3.mono (by omega))) (plan_pure (some 5) (.float .f32 m) (by kernel_rfl) (by kernel_rfl) (by kernel_rfl) (fun _ => by kernel_rfl) (plan_pure (some 6) (.int .i64 n) (by kernel_rfl) (by kernel_rfl) (by kernel_rfl) (fun _ => by kernel_rfl) (plan_end (NoPanic.normal ?_)))))))⟩
        simp only [Act.put, List.setIfInBounds_toArray, List.set_cons_zero, List.set_cons_succ]
        go_wp2
        refine bodyPost_ret (results_gfn rfl _ _ _ A m n rfl rfl rfl P3.out.store.range Tryd.underlying32 rfl infoG195) rfl ⟨by rw [HE.out], below_setCells _ (by omega) _ _ _ HB3.out⟩
      · skip
        go_upto_region 5 with (first | (refine ld_stage 32 rfl ?_; refine wpList_load_mid rfl 32 _ rfl (w.heap.size) 0 rfl (GrdL (G)) _ r1 Tryd.underlying32 rfl (by rw [GrdL_length]; exact infoGround) ?_) | (go_at_call 67; have hc := (validGround_any G W HG.out TW.out (tab_lt TW.out)); rw [Hv.out] at hc; refine hc.mono ?_; clear hc; rintro e V ⟨rfl, hb1⟩))
        have r2 := range_kept r1 (by omega) _ hb1
        have P2 := Lib.hid (G2.out.below hb1 hl)
        have TV := Lib.hid (TW.out.below hb1 (tab_lt TW.out))
        have B1 := Lib.hid (HB.out.trans (hb1.mono (by omega)))
        have hlV := hb1.size
        clear r1 hb1
        have rG := r2
        refine wp_region_plan (ops' := regOf Tryd.f40 5) (.take 0 (.take 1 (.run 2 (.run 3 (.take 4 (.take 5 (.take 6 (.run 7 (.take 8 (.take 9 .fin)))))))))) (Below (w.heap.size + 1) V) (by kernel_rfl) (by kernel_rfl) (by kernel_rfl) (by kernel_rfl) (by kernel_rfl) (Below.refl _ _).drew ?_
        obtain ⟨Z, hZ⟩ : ∃ Z, V.drew = Z := ⟨_, rfl⟩
        have qZ : Quiet V Z := by rw [← hZ]; exact (Quiet.refl _).drewN 1
        rw [hZ]
        clear hZ
        refine plan_load (some 18) 32 (.tmp 2) w.heap.size 0 (GrdL G) _ (by kernel_rfl) (by kernel_rfl) (by kernel_rfl) (by kernel_rfl) (by kernel_rfl) (fun w' hw' => range_kept (n := w.heap.size + 1) rG (by omega) _ hw') Tryd.underlying32 rfl (by rw [GrdL_length]; exact infoGround) ?_
        refine plan_pure (some 19) (.int .i64 1) (by kernel_rfl) (by kernel_rfl) (by kernel_rfl) (fun _ => by kernel_rfl) ?_
        refine plan_call (some 20) 79 #[.int .i64 1] (by kernel_rfl) (by kernel_rfl) (by kernel_rfl) (by kernel_rfl) ((ofColour_any 1 Z).mono ?_)
        rintro e w2 ⟨rfl, rfl⟩
        obtain ⟨U, hU⟩ : ∃ U, Z.alloc (.cells #[.int .i64 1] 2) = U := ⟨_, rfl⟩
        have hbU : Below Z.heap.size Z U := by rw [← hU]; exact (Below.refl _ _).alloc (Nat.le_refl _) _
        have hcU : U.cell? ⟨Z.heap.size, 0, none⟩ = some (.int .i64 1) := by rw [← hU]; exact cell_of_row _ _ 0 _ _ _ (heap_alloc_last Z _)
        have zU : Z.heap.size < U.heap.size := by rw [← hU]; simp
        have zZ := qZ.size
        have BU : Below V.heap.size V U := (qZ.below _).trans (hbU.mono (by omega))
        rw [hU]
        clear hU
        refine ⟨_, rfl, BU.mono (by omega), plan_call (some 21) 75 #[.agg (Grd G), .func (.func 102) #[] #[.pointer (some ⟨Z.heap.size, 0, none⟩)]] (by kernel_rfl) (by kernel_rfl) (by kernel_rfl) (by kernel_rfl) ?_⟩
        have hc := sweptCol_any G 1 (by omega) Z.heap.size U Hv.out HG.out (TV.out.below BU (tab_lt TV.out)) hcU
        rw [HA.out] at hc
        refine hc.mono ?_
        clear hc
        rintro e w3 ⟨rfl, hb3⟩
        have B3 : Below V.heap.size V w3 := BU.trans (hb3.mono BU.size)
        have P3 := Lib.hid (P2.out.below B3 (by omega))
        have HB3 := Lib.hid (B1.out.trans (B3.mono (by omega)))
        refine ⟨_, rfl, B3.mono (by omega), plan_pure (some 22) (.agg (Grd A)) (by kernel_rfl) (by kernel_rfl) (by kernel_rfl) (fun _ => by kernel_rfl) (plan_pure (some 23) (.float .f32 m) (by kernel_rfl) (by kernel_rfl) (by kernel_rfl) (fun _ => by kernel_rfl) (plan_pure (some 24) (.int .i64 n) (by kernel_rfl) (by kernel_rfl) (by kernel_rfl) (fun _ => by kernel_rfl) (plan_do none undef (w3.setCells (w.heap.size + 1) 0 (Grd A).toList) (by kernel_rfl) (by kernel_rfl) (by kernel_rfl) (.inr ⟨store_op (x := .tmp 4) (y := .tmp 22) (cs := Grd A) (by kernel_rfl) (by kernel_rfl) (by kernel_rfl) (by rw [Grd_size]; exact P3.out.there) (by rw [Grd_size]; exact infoGround) (Grd_one _), rfl⟩) (below_setCells _ (Nat.le_refl _) _ _ _ (B3.mono (by omega))) (plan_pure (some 5) (.float .f32 m) (by kernel_rfl) (by kernel_rfl) (by kernel_rfl) (fun _ => by kernel_rfl) (plan_pure (some 6) (.int .i64 n) (by kernel_rfl) (by kernel_rfl) (by kernel_rfl) (fun _ => by kernel_rfl) (plan_end (NoPanic.normal ?_)))))))⟩
        simp only [Act.put, List.setIfInBounds_toArray, List.set_cons_zero, List.set_cons_succ]
        go_wp2
        refine bodyPost_ret (results_gfn rfl _ _ _ A m n rfl rfl rfl P3.out.store.range Tryd.underlying32 rfl infoG195) rfl ⟨by rw [HE.out], below_setCells _ (by omega) _ _ _ HB3.out⟩
    · have h1 : ¬ c = 0 := fun h => h0 (.inl h)
      have h2 : ¬ c = 1 := fun h => h0 (.inr h)
      have b1 : (c == 0) = false := by simpa using h1
      have b2 : (c == 1) = false := by simpa using h2
      have b3 : (c != 0) = true := by simpa using h1
      have b4 : (c != 1) = true := by simpa using h2
      have HE := Lib.hid (show EV = .tuple #[.agg (Grd zG), .float .f32 0, .int .i64 2] by rw [← hE]; simp [colV, hv, h0])
      go_upto_region 4 with (first | (refine ld_stage 32 rfl ?_; refine wpList_load_mid rfl 32 _ rfl (w.heap.size) 0 rfl (GrdL (G)) _ r1 Tryd.underlying32 rfl (by rw [GrdL_length]; exact infoGround) ?_) | (go_at_call 67; have hc := (validGround_any G W HG.out TW.out (tab_lt TW.out)); rw [Hv.out] at hc; refine hc.mono ?_; clear hc; rintro e V ⟨rfl, hb1⟩))
      have P2 := Lib.hid (G2.out.below hb1 hl)
      have B1 := Lib.hid (HB.out.trans (hb1.mono (by omega)))
      have tt := P2.out.there
      clear r1 hb1
      go_wp2_with (refine st_stage 32 rfl ?_; refine wpList_store_mid rfl 32 _ _ rfl _ 0 (Grd (zG)) rfl rfl (by rw [Grd_size]; with_reducible exact tt) (by rw [Grd_size]; exact infoGround) (Grd_one _) ?_)
      refine bodyPost_ret (results_gfn rfl _ _ _ zG 0 2 rfl rfl rfl P2.out.store.range Tryd.underlying32 rfl infoG195) rfl ⟨by rw [HE.out], below_setCells _ (by omega) _ _ _ B1.out⟩

set_option maxRecDepth 100000 in
set_option maxHeartbeats 2000000 in
theorem l00InG_is (n a b : Int) (r : Bool) (h : (decide (a ≤ n) && decide (n ≤ b)) = r) (w : World) : Calls Tryd.prog 78 #[.int .i64 n, .int .i64 a, .int .i64 b] w fun e w' => e = .returned (.bool r) ∧ w = w' := by
  subst h
  by_cases h1 : a ≤ n
  · by_cases h2 : n ≤ b
    · rw [show (decide (a ≤ n) && decide (n ≤ b)) = true by simp [h1, h2]]
      go_enter Tryd.func78, Tryd.ntmps78
      go_wp2
      go_ret
      exact ⟨rfl, rfl⟩
    · rw [show (decide (a ≤ n) && decide (n ≤ b)) = false by simp [h2]]
      go_enter Tryd.func78, Tryd.ntmps78
      go_wp2
      go_ret
      exact ⟨rfl, rfl⟩
  · rw [show (decide (a ≤ n) && decide (n ≤ b)) = false by simp [h1]]
    go_enter Tryd.func78, Tryd.ntmps78
    go_wp2
    go_ret
    exact ⟨rfl, rfl⟩

set_option maxRecDepth 100000 in
set_option maxHeartbeats 2000000 in
theorem specColour_any (G : Gd) (c : Int) (w : World) (hG : GdOk G) :
    Calls Tryd.prog 39 #[.agg (Grd G), .int .i64 c] w fun e w' => e = .returned (colV G c) ∧ Below w.heap.size w w' := by
  have hz := (zero_of_info zeroGround).1
  go_enter Tryd.func39, Tryd.ntmps39
  go_upto_region 1 with (fail)
  obtain ⟨W, hW, zW, g1, g2, hB⟩ := gbox2 G zG 32 32 w
  rw [hW]
  clear hW
  have G1 := Lib.hid g1
  have G2 := Lib.hid g2
  have HB := Lib.hid hB
  have HG := Lib.hid hG
  clear g1 g2 hB hG
  cases hv : validB G
  · have Hv := Lib.hid hv
    have HR := Lib.hid (show colV G c = .tuple #[.agg (Grd zG), .float .f32 0, .int .i64 1] by simp [colV, hv])
    go_wp2_with (first | (go_at_call 49; have hc := (l01Ok_any G w.heap.size W G1.out.at' HG.out); rw [Hv.out] at hc; refine hc.mono ?_; clear hc; rintro e w' ⟨rfl, n1, rfl⟩; have S1 := Lib.hid (G1.out.below (Quiet.below ⟨n1, rfl⟩ (w.heap.size + 2) : Below (w.heap.size + 2) W (World.drewN W n1)) (by omega)); have S2 := Lib.hid (G2.out.below (Quiet.below ⟨n1, rfl⟩ (w.heap.size + 2) : Below (w.heap.size + 2) W (World.drewN W n1)) (by omega)); have t1 := S2.out.there; have BW := Lib.hid (HB.out.trans (Quiet.below ⟨n1, rfl⟩ _) : Below w.heap.size w (World.drewN W n1))) | (refine st_stage 32 rfl ?_; refine wpList_store_mid rfl 32 _ _ rfl _ 0 (Grd (zG)) rfl rfl (by rw [Grd_size]; with_reducible exact t1) (by rw [Grd_size]; exact infoGround) (Grd_one _) ?_))
    refine bodyPost_ret (results_gfn rfl _ _ _ zG 0 1 rfl rfl rfl S2.out.store.range Tryd.underlying32 rfl infoG195) rfl ⟨by rw [HR.out], below_setCells _ (by omega) _ _ _ BW.out⟩
  · have Hv := Lib.hid hv
    by_cases h0 : c = 0 ∨ c = 1
    · obtain ⟨A, m, n, hA⟩ := sweptV_is (nxC c) G
      have HA := Lib.hid hA
      have HR := Lib.hid (show colV G c = .tuple #[.agg (Grd A), .float .f32 m, .int .i64 n] by rw [← hA]; simp [colV, hv, h0])
      have H0 := Lib.hid h0
      have hc0 : 0 ≤ c ∧ c ≤ 1 := by omega
      clear hv hA h0
      go_wp2_with (first | (go_at_call 49; have hc := (l01Ok_any G w.heap.size W G1.out.at' HG.out); rw [Hv.out] at hc; refine hc.mono ?_; clear hc; rintro e w' ⟨rfl, n1, rfl⟩; have S1 := Lib.hid (G1.out.below (Quiet.below ⟨n1, rfl⟩ (w.heap.size + 2) : Below (w.heap.size + 2) W (World.drewN W n1)) (by omega)); have S2 := Lib.hid (G2.out.below (Quiet.below ⟨n1, rfl⟩ (w.heap.size + 2) : Below (w.heap.size + 2) W (World.drewN W n1)) (by omega)); have t1 := S2.out.there; have BW := Lib.hid (HB.out.trans (Quiet.below ⟨n1, rfl⟩ _) : Below w.heap.size w (World.drewN W n1))) | (go_at_call 78; refine (l00InG_is c 0 1 true (by simp; omega) _).mono ?_; rintro e w' ⟨rfl, rfl⟩) | (go_at_call 77; have hc := l02Sweep_any G c (.inr H0.out) w.heap.size _ S1.out Hv.out HG.out; rw [HA.out] at hc; refine hc.mono ?_; clear hc; rintro e w1 ⟨rfl, hq⟩; have SR := Lib.hid (S2.out.below hq (by have := S2.out.lt; omega)); have t1 := SR.out.there; have SB := Lib.hid (BW.out.trans (hq.mono (by have := S2.out.lt; omega))); clear hq) | (refine st_stage 32 rfl ?_; refine wpList_store_mid rfl 32 _ _ rfl _ 0 (Grd (A)) rfl rfl (by rw [Grd_size]; with_reducible exact t1) (by rw [Grd_size]; exact infoGround) (Grd_one _) ?_))
      refine bodyPost_ret (results_gfn rfl _ _ _ A m n rfl rfl rfl SR.out.store.range Tryd.underlying32 rfl infoG195) rfl ⟨by rw [HR.out], below_setCells _ (by omega) _ _ _ SB.out⟩
    · have h1 : ¬ c = 0 := fun h => h0 (.inl h)
      have h2 : ¬ c = 1 := fun h => h0 (.inr h)
      have HR := Lib.hid (show colV G c = .tuple #[.agg (Grd zG), .float .f32 0, .int .i64 2] by simp [colV, hv, h0])
      go_wp2_with (first | (go_at_call 49; have hc := (l01Ok_any G w.heap.size W G1.out.at' HG.out); rw [Hv.out] at hc; refine hc.mono ?_; clear hc; rintro e w' ⟨rfl, n1, rfl⟩; have S1 := Lib.hid (G1.out.below (Quiet.below ⟨n1, rfl⟩ (w.heap.size + 2) : Below (w.heap.size + 2) W (World.drewN W n1)) (by omega)); have S2 := Lib.hid (G2.out.below (Quiet.below ⟨n1, rfl⟩ (w.heap.size + 2) : Below (w.heap.size + 2) W (World.drewN W n1)) (by omega)); have t1 := S2.out.there; have BW := Lib.hid (HB.out.trans (Quiet.below ⟨n1, rfl⟩ _) : Below w.heap.size w (World.drewN W n1))) | (go_at_call 78; refine (l00InG_is c 0 1 false (by simp; omega) _).mono ?_; rintro e w' ⟨rfl, rfl⟩) | (refine st_stage 32 rfl ?_; refine wpList_store_mid rfl 32 _ _ rfl _ 0 (Grd (zG)) rfl rfl (by rw [Grd_size]; with_reducible exact t1) (by rw [Grd_size]; exact infoGround) (Grd_one _) ?_))
      refine bodyPost_ret (results_gfn rfl _ _ _ zG 0 2 rfl rfl rfl S2.out.store.range Tryd.underlying32 rfl infoG195) rfl ⟨by rw [HR.out], below_setCells _ (by omega) _ _ _ BW.out⟩
end Go.Proofs.YtdhnneidkdoplaaDoor
