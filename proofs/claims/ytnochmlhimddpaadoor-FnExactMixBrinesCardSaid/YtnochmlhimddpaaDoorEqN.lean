/- Brines held against each other whose salt is one up to which NaN it is. Conditions: none. -/
import Derived.Test.YtnochmlhimddpaaDoorBriL
namespace Go.Proofs.YtnochmlhimddpaaDoor
open Go.RowKit Go.Shelf Go.WideShapes
attribute [local go_sem] run_store_float
set_option linter.unusedSimpArgs false
set_option linter.unusedVariables false

set_option maxRecDepth 100000 in
set_option maxHeartbeats 1000000 in
theorem eqField_num (f g : Nat → Nat) (h : ∀ i, i < 64 → num .f32 (f i) = num .f32 (g i)) (w : World) :
    Calls Tryd.prog 55 #[.agg (Fld f), .agg (Fld g)] w fun e w' => e = .returned (.bool true) ∧ Below w.heap.size w w' := by
  have HN := Lib.hid h
  clear h
  go_enter Tryd.func55, Tryd.ntmps55
  go_upto_region 1 with (fail)
  obtain ⟨W, hW, hz, r1, r2, hB⟩ := fbox2 f g 32 32 w
  rw [hW]
  clear hW
  have R1 := Lib.hid r1
  have R2 := Lib.hid r2
  clear r1 r2
  go_wp2
  go_loopw [5] (fun i wr => ∃ k : Nat, k ≤ 64 ∧ i = .int .i64 k ∧ Hid (Quiet W wr)) (fun i _ => 64 - (intOf i).toNat)
  case atStart => exact ⟨0, by omega, rfl, Quiet.refl _⟩
  case round =>
    obtain ⟨k, hk, rfl, hq⟩ := hrel
    by_cases hlt : k < 64
    · go_wp2
      have c1 := Grd_fld (hq.out.range R1.out) k hlt
      have c2 := Grd_fld (hq.out.range R2.out) k hlt
      have C1 : ∀ w', Quiet wr w' → w'.cell? ⟨w.heap.size, 0 + k, none⟩ = some (.float .f32 (f k)) := fun w' h => (h.cell _).trans c1
      have C2 : ∀ w', Quiet wr w' → w'.cell? ⟨w.heap.size + 1, 0 + k, none⟩ = some (.float .f32 (g k)) := fun w' h => (h.cell _).trans c2
      refine wp_region_calm (ops' := regOf Tryd.f55 4) [0, 1, 2, 3, 4, 5, 6, 7, 8, 9] [] .fin (Quiet wr) [(0, One (.int .i64 k)), (1, One (.pointer (some ⟨w.heap.size, 0 + k, none⟩))), (2, One (.float .f32 (f k))), (3, Numv .f64 ((num .f32 (f k)).map cv)), (4, One (.int .i64 k)), (5, One (.pointer (some ⟨w.heap.size + 1, 0 + k, none⟩))), (6, One (.float .f32 (g k))), (7, Numv .f64 ((num .f32 (g k)).map cv)), (8, One (.bool true)), (9, One (.bool false))] (by kernel_rfl) (by kernel_rfl) (by kernel_rfl) (by kernel_rfl) (by kernel_rfl) (by kernel_rfl) (by kernel_rfl) (by kernel_rfl) rfl ((Quiet.refl _).drewN 1) ?_
      refine calm_pure (some 10) (by kernel_rfl) (by kernel_rfl) (by kernel_rfl) (fun _ => by kernel_rfl) ?_
      refine calm_pure (some 11) (by kernel_rfl) (by kernel_rfl) (by kernel_rfl) (index_fld (x := .tmp 2) (y := .tmp 10) (o := 0) (by kernel_rfl) (by kernel_rfl) (by kernel_rfl) hlt) ?_
      refine calm_read (some 12) (by kernel_rfl) (by kernel_rfl) (by kernel_rfl) (fun w' hw' => load_cell (ty := 23) (x := .tmp 11) (b := w.heap.size) (o := 0 + k) (by kernel_rfl) (by kernel_rfl) Tryd.underlying23 rfl (C1 w' hw')) ?_
      refine calm_conv (some 13) 23 48 (.tmp 12) (f k) (by kernel_rfl) (by kernel_rfl) (by kernel_rfl) (by kernel_rfl) Tryd.underlying23 Tryd.underlying48 (by kernel_rfl) (fun _ n h => h.drewN n) (rfl) ?_
      intro x hx
      refine calm_pure (some 14) (by kernel_rfl) (by kernel_rfl) (by kernel_rfl) (fun _ => by kernel_rfl) ?_
      refine calm_pure (some 15) (by kernel_rfl) (by kernel_rfl) (by kernel_rfl) (index_fld (x := .tmp 3) (y := .tmp 14) (o := 0) (by kernel_rfl) (by kernel_rfl) (by kernel_rfl) hlt) ?_
      refine calm_read (some 16) (by kernel_rfl) (by kernel_rfl) (by kernel_rfl) (fun w' hw' => load_cell (ty := 23) (x := .tmp 15) (b := w.heap.size + 1) (o := 0 + k) (by kernel_rfl) (by kernel_rfl) Tryd.underlying23 rfl (C2 w' hw')) ?_
      refine calm_conv (some 17) 23 48 (.tmp 16) (g k) (by kernel_rfl) (by kernel_rfl) (by kernel_rfl) (by kernel_rfl) Tryd.underlying23 Tryd.underlying48 (by kernel_rfl) (fun _ n h => h.drewN n) (rfl) ?_
      intro y hy
      refine calm_call (some 18) 23 #[.float .f64 x, .float .f64 y] ⟨_, rfl⟩ (by kernel_rfl) (by kernel_rfl) (by kernel_rfl) (fun _ => by kernel_rfl) (fun w' hw' => (sameFloat_yes x y (hx.trans ((congrArg (Option.map cv) (HN.out k hlt)).trans hy.symm)) w').mono fun e w2 h => ⟨_, h.1, rfl, by obtain ⟨_, n, rfl⟩ := h; exact hw'.drewN n⟩) ?_
      rintro _ rfl
      refine calm_pure (some 19) (by kernel_rfl) (by kernel_rfl) (by kernel_rfl) (fun _ => by kernel_rfl) ?_
      refine calm_end fun w' hw' => plan_end (Clean.normal ?_)
      clear hx hy c1 c2 C1 C2
      simp only [Act.put, List.setIfInBounds_toArray, List.set_cons_zero, List.set_cons_succ]
      go_wp2
      go_roundw
      case rel => exact ⟨k + 1, by omega, by go_num, hq.out.trans hw'⟩
      case measure => simp [intOf]; omega
    · obtain rfl : k = 64 := by omega
      go_wp2
      go_ret
      exact ⟨rfl, hB.trans (hq.out.below _)⟩

set_option maxRecDepth 100000 in
set_option maxHeartbeats 2000000 in
theorem eqBrine_num (B : Brn) (g : Nat → Nat) (h : ∀ i, i < 64 → num .f32 (B.s i) = num .f32 (g i)) (w : World) :
    Calls Tryd.prog 18 #[.agg (BrnA B), .agg (BrnA { B with s := g })] w fun e w' => e = .returned (.bool true) ∧ Below w.heap.size w w' := by
  have HN := Lib.hid h
  clear h
  go_enter Tryd.func18, Tryd.ntmps18
  go_upto_region 1 with (fail)
  obtain ⟨W, hW, hs, b1, b2, hB⟩ := bbox2 B { B with s := g } 36 36 w
  rw [hW]
  clear hW
  have n1 : w.heap.size < W.heap.size := by omega
  have n2 : w.heap.size + 1 < W.heap.size := by omega
  clear hs
  have r1 := b1.grd.range
  have r2 := b2.grd.range
  go_upto_region 3 with (first | (refine wpList_load_mid rfl 34 _ rfl (w.heap.size) 0 rfl (GrdL B.G) _ r1 Tryd.underlying34 rfl (by rw [GrdL_length]; exact infoGround) ?_) | (refine wpList_load_mid rfl 34 _ rfl (w.heap.size + 1) 0 rfl (GrdL B.G) _ r2 Tryd.underlying34 rfl (by rw [GrdL_length]; exact infoGround) ?_) | (go_at_call 27; refine (eqGround_yes B.G _).mono ?_; rintro e V1 ⟨rfl, hb1⟩))
  have c1 := b1.below hb1 n1
  have c2 := b2.below hb1 n2
  have cB := hB.trans (hb1.mono (by omega))
  have m1 := c1.lt
  have m2 := c2.lt
  clear r1 r2 b1 b2 hB n1 n2 hb1
  have b1 := c1
  have b2 := c2
  have hB := cB
  have n1 := m1
  have n2 := m2
  clear c1 c2 cB m1 m2
  have r1 := b1.s
  have r2 := b2.s
  go_upto_region 5 with (first | (refine wpList_load_mid rfl 32 _ rfl (w.heap.size) 195 rfl (Fld B.s).toList _ r1 Tryd.underlying32 rfl (by rw [Fld_length]; exact infoField) ?_) | (refine wpList_load_mid rfl 32 _ rfl (w.heap.size + 1) 195 rfl (Fld g).toList _ r2 Tryd.underlying32 rfl (by rw [Fld_length]; exact infoField) ?_) | (go_at_call 55; refine (eqField_num B.s g HN.out _).mono ?_; rintro e V2 ⟨rfl, hb2⟩))
  have c1 := b1.below hb2 n1
  have c2 := b2.below hb2 n2
  have cB := hB.trans (hb2.mono (by omega))
  have m1 := c1.lt
  have m2 := c2.lt
  clear r1 r2 b1 b2 hB n1 n2 hb2
  have b1 := c1
  have b2 := c2
  have hB := cB
  have n1 := m1
  have n2 := m2
  clear c1 c2 cB m1 m2
  have r1 := b1.p
  have r2 := b2.p
  go_upto_region 7 with (first | (refine wpList_load_mid rfl 32 _ rfl (w.heap.size) 259 rfl (Fld B.p).toList _ r1 Tryd.underlying32 rfl (by rw [Fld_length]; exact infoField) ?_) | (refine wpList_load_mid rfl 32 _ rfl (w.heap.size + 1) 259 rfl (Fld B.p).toList _ r2 Tryd.underlying32 rfl (by rw [Fld_length]; exact infoField) ?_) | (go_at_call 55; refine (eqField_yes B.p _).mono ?_; rintro e V3 ⟨rfl, hb3⟩))
  have c1 := b1.below hb3 n1
  have c2 := b2.below hb3 n2
  have cB := hB.trans (hb3.mono (by omega))
  have m1 := c1.lt
  have m2 := c2.lt
  clear r1 r2 b1 b2 hB n1 n2 hb3
  have b1 := c1
  have b2 := c2
  have hB := cB
  have n1 := m1
  have n2 := m2
  clear c1 c2 cB m1 m2
  have r1 := b1.r
  have r2 := b2.r
  have q2 := Lib.hid (fun n => ((World.cell?_drewN _ n _).trans r2 : (World.drewN V3 n).cell? ⟨w.heap.size + 1, 323, none⟩ = some (.float .f32 B.r)))
  have HB := Lib.hid hB
  clear b1 b2 hB
  have t1 : True := trivial
  go_wp2_with (first | (have _t := t1; refine wpList_conv_g (by kernel_rfl) _ _ _ rfl Tryd.underlying23 Tryd.underlying48 _ rfl ?_; intro x m hx; have X := Lib.hid hx; have r3 := q2.out m; clear t1 hx q2) | (refine wpList_conv_g (by kernel_rfl) _ _ _ rfl Tryd.underlying23 Tryd.underlying48 _ rfl ?_; intro y m' hy; have Y' := Lib.hid hy; clear hy) | (go_at_call 23; refine (sameFloat_yes x y (by rw [X.out, Y'.out]) _).mono ?_; rintro e w' ⟨rfl, k, rfl⟩))
  go_ret
  exact ⟨rfl, HB.out.trans (Quiet.below ⟨_, rfl⟩ _)⟩
end Go.Proofs.YtnochmlhimddpaaDoor
