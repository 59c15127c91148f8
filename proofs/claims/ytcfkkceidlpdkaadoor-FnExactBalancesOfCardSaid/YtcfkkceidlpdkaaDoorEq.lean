/- The laws' comparison of fields and grounds says yes of what is the same. No condition. -/
import Derived.Test.YtcfkkceidlpdkaaDoorCalmF
import Derived.Test.YtcfkkceidlpdkaaDoorBox
namespace Go.Proofs.YtcfkkceidlpdkaaDoor
open Go.RowKit
set_option linter.unusedSimpArgs false

/-- Two fields are boxed. -/
theorem fbox2 (f g : Nat → Nat) (t u : TypeId) (w : World) : ∃ W, (w.alloc (.cells (Fld f) t)).alloc (.cells (Fld g) u) = W ∧ W.heap.size = w.heap.size + 1 + 1 ∧ W.rangeAt w.heap.size 0 (Fld f).toList ∧ W.rangeAt (w.heap.size + 1) 0 (Fld g).toList ∧ Below w.heap.size w W := two_boxes (Fld f) (Fld g) t u w

set_option maxRecDepth 100000 in
set_option maxHeartbeats 1000000 in
theorem eqField_yes (f : Nat → Nat) (w : World) :
    Calls Tryd.prog 23 #[.agg (Fld f), .agg (Fld f)] w fun e w' => e = .returned (.bool true) ∧ Below w.heap.size w w' := by
  go_enter Tryd.func23, Tryd.ntmps23
  go_upto_region 1 with (fail)
  obtain ⟨W, hW, hz, r1, r2, hB⟩ := fbox2 f f 30 30 w
  rw [hW]
  clear hW
  have R1 := Lib.hid r1
  have R2 := Lib.hid r2
  clear r1 r2
  go_wp2
  go_loopw [5] (fun i wr => ∃ k : Nat, k ≤ 64 ∧ i = .int .i64 k ∧ Hid (Quiet W wr)) (fun i _ => 64 - (intOf i).toNat)
  case atStart => exact ⟨0, by omega, rfl, Quiet.refl _⟩
  case round =>
    obtain ⟨k, hk, rfl, hq⟩ := hrel
    by_cases hlt : k < 64
    · go_wp2
      have c1 := Grd_fld (hq.out.range R1.out) k hlt
      have c2 := Grd_fld (hq.out.range R2.out) k hlt
      have C1 : ∀ w', Quiet wr w' → w'.cell? ⟨w.heap.size, 0 + k, none⟩ = some (.float .f32 (f k)) := fun w' h => (h.cell _).trans c1
      have C2 : ∀ w', Quiet wr w' → w'.cell? ⟨w.heap.size + 1, 0 + k, none⟩ = some (.float .f32 (f k)) := fun w' h => (h.cell _).trans c2
      refine wp_region_calm (ops' := regOf Tryd.f23 4) [0, 1, 2, 3, 4, 5, 6, 7, 8, 9] [] .fin (Quiet wr) [(0, One (.int .i64 k)), (1, One (.pointer (some ⟨w.heap.size, 0 + k, none⟩))), (2, One (.float .f32 (f k))), (3, Numv .f64 ((num .f32 (f k)).map cv)), (4, One (.int .i64 k)), (5, One (.pointer (some ⟨w.heap.size + 1, 0 + k, none⟩))), (6, One (.float .f32 (f k))), (7, Numv .f64 ((num .f32 (f k)).map cv)), (8, One (.bool true)), (9, One (.bool false))] (by kernel_rfl) (by kernel_rfl) (by kernel_rfl) (by kernel_rfl) (by kernel_rfl) (by kernel_rfl) (by kernel_rfl) (by kernel_rfl) rfl ((Quiet.refl _).drewN 1) ?_
      refine calm_pure (some 10) (by kernel_rfl) (by kernel_rfl) (by kernel_rfl) (fun _ => by kernel_rfl) ?_
      refine calm_pure (some 11) (by kernel_rfl) (by kernel_rfl) (by kernel_rfl) (index_fld (x := .tmp 2) (y := .tmp 10) (o := 0) (by kernel_rfl) (by kernel_rfl) (by kernel_rfl) hlt) ?_
      refine calm_read (some 12) (by kernel_rfl) (by kernel_rfl) (by kernel_rfl) (fun w' hw' => load_cell (ty := 23) (x := .tmp 11) (b := w.heap.size) (o := 0 + k) (by kernel_rfl) (by kernel_rfl) Tryd.underlying23 rfl (C1 w' hw')) ?_
      refine calm_conv (some 13) 23 35 (.tmp 12) (f k) (by kernel_rfl) (by kernel_rfl) (by kernel_rfl) (by kernel_rfl) Tryd.underlying23 Tryd.underlying35 (by kernel_rfl) (fun _ n h => h.drewN n) (rfl) ?_
      intro x hx
      refine calm_pure (some 14) (by kernel_rfl) (by kernel_rfl) (by kernel_rfl) (fun _ => by kernel_rfl) ?_
      refine calm_pure (some 15) (by kernel_rfl) (by kernel_rfl) (by kernel_rfl) (index_fld (x := .tmp 3) (y := .tmp 14) (o := 0) (by kernel_rfl) (by kernel_rfl) (by kernel_rfl) hlt) ?_
      refine calm_read (some 16) (by kernel_rfl) (by kernel_rfl) (by kernel_rfl) (fun w' hw' => load_cell (ty := 23) (x := .tmp 15) (b := w.heap.size + 1) (o := 0 + k) (by kernel_rfl) (by kernel_rfl) Tryd.underlying23 rfl (C2 w' hw')) ?_
      refine calm_conv (some 17) 23 35 (.tmp 16) (f k) (by kernel_rfl) (by kernel_rfl) (by kernel_rfl) (by kernel_rfl) Tryd.underlying23 Tryd.underlying35 (by kernel_rfl) (fun _ n h => h.drewN n) (rfl) ?_
      intro y hy
      refine calm_call (some 18) 18 #[.float .f64 x, .float .f64 y] ⟨_, rfl⟩ (by kernel_rfl) (by kernel_rfl) (by kernel_rfl) (fun _ => by kernel_rfl) (fun w' hw' => (sameFloat_yes x y (hx.trans hy.symm) w').mono fun e w2 h => ⟨_, h.1, rfl, by obtain ⟨_, n, rfl⟩ := h; exact hw'.drewN n⟩) ?_
      rintro _ rfl
      refine calm_pure (some 19) (by kernel_rfl) (by kernel_rfl) (by kernel_rfl) (fun _ => by kernel_rfl) ?_
      refine calm_end fun w' hw' => plan_end (Clean.normal ?_)
      clear hx hy c1 c2 C1 C2
      simp only [Act.put, List.setIfInBounds_toArray, List.set_cons_zero, List.set_cons_succ]
      go_wp2
      go_roundw
      case rel => exact ⟨k + 1, by omega, by go_num, hq.out.trans hw'⟩
      case measure => simp [intOf]; omega
    · obtain rfl : k = 64 := by omega
      go_wp2
      go_ret
      exact ⟨rfl, hB.trans (hq.out.below _)⟩

/-- The code after a load of a field. -/
theorem eqField_keep {n : Nat} {W V : World} {b o : Nat} {f : Nat → Nat} (h : W.rangeAt b o (Fld f).toList) (hB : Below n W V) (hb : b < n) : V.rangeAt b o (Fld f).toList := range_kept h hb V hB

set_option maxRecDepth 100000 in
set_option maxHeartbeats 1000000 in
theorem eqGround_yes (G : Gd) (w : World) :
    Calls Tryd.prog 34 #[.agg (Grd G), .agg (Grd G)] w fun e w' => e = .returned (.bool true) ∧ Below w.heap.size w w' := by
  go_enter Tryd.func34, Tryd.ntmps34
  go_upto_region 1 with (fail)
  obtain ⟨W, hW, hz, g1, g2, hB⟩ := gbox2 G G 32 32 w
  rw [hW]
  clear hW
  have a0 := g1.at'.wide; have a1 := g1.at'.high; have b0 := g2.at'.wide; have b1 := g2.at'.high
  have hn : w.heap.size + 1 + 1 ≤ W.heap.size := by omega
  have G1 := Lib.hid g1
  have G2 := Lib.hid g2
  have HB := Lib.hid hB
  clear g1 g2 hB hz
  rw [Nat.zero_add] at a1 b1
  go_upto_region 5 with (fail)
  clear a0 a1 b0 b1
  have c1 := G1.out.at'.c
  have c2 := G2.out.at'.c
  go_upto_region 7 with (first | (refine wpList_load_mid rfl 30 _ rfl w.heap.size (0 + 2) rfl (Fld G.c).toList _ c1 Tryd.underlying30 rfl (by rw [Fld_length]; exact infoField) ?_) | (refine wpList_load_mid rfl 30 _ rfl (w.heap.size + 1) (0 + 2) rfl (Fld G.c).toList _ c2 Tryd.underlying30 rfl (by rw [Fld_length]; exact infoField) ?_) | (go_at_call 23; refine (eqField_yes G.c _).mono ?_; rintro e V1 ⟨rfl, hb1⟩))
  replace G1 := Lib.hid (G1.out.below hb1 (by have := hn; omega))
  replace G2 := Lib.hid (G2.out.below hb1 (by have := hn; omega))
  have hn1 : w.heap.size + 1 + 1 ≤ V1.heap.size := by have := hb1.size; omega
  replace HB := Lib.hid (HB.out.trans (hb1.mono (by omega)))
  clear c1 c2 hb1 hn
  have hn := hn1
  clear hn1
  have c1 := G1.out.at'.g
  have c2 := G2.out.at'.g
  go_upto_region 9 with (first | (refine wpList_load_mid rfl 30 _ rfl w.heap.size (0 + 66) rfl (Fld G.g).toList _ c1 Tryd.underlying30 rfl (by rw [Fld_length]; exact infoField) ?_) | (refine wpList_load_mid rfl 30 _ rfl (w.heap.size + 1) (0 + 66) rfl (Fld G.g).toList _ c2 Tryd.underlying30 rfl (by rw [Fld_length]; exact infoField) ?_) | (go_at_call 23; refine (eqField_yes G.g _).mono ?_; rintro e V2 ⟨rfl, hb2⟩))
  replace G1 := Lib.hid (G1.out.below hb2 (by have := hn; omega))
  replace G2 := Lib.hid (G2.out.below hb2 (by have := hn; omega))
  have hn2 : w.heap.size + 1 + 1 ≤ V2.heap.size := by have := hb2.size; omega
  replace HB := Lib.hid (HB.out.trans (hb2.mono (by omega)))
  clear c1 c2 hb2 hn
  have hn := hn2
  clear hn2
  have c1 := G1.out.at'.h
  have c2 := G2.out.at'.h
  go_upto_region 11 with (first | (refine wpList_load_mid rfl 30 _ rfl w.heap.size (0 + 130) rfl (Fld G.h).toList _ c1 Tryd.underlying30 rfl (by rw [Fld_length]; exact infoField) ?_) | (refine wpList_load_mid rfl 30 _ rfl (w.heap.size + 1) (0 + 130) rfl (Fld G.h).toList _ c2 Tryd.underlying30 rfl (by rw [Fld_length]; exact infoField) ?_) | (go_at_call 23; refine (eqField_yes G.h _).mono ?_; rintro e V3 ⟨rfl, hb3⟩))
  replace G1 := Lib.hid (G1.out.below hb3 (by have := hn; omega))
  replace G2 := Lib.hid (G2.out.below hb3 (by have := hn; omega))
  have hn3 : w.heap.size + 1 + 1 ≤ V3.heap.size := by have := hb3.size; omega
  replace HB := Lib.hid (HB.out.trans (hb3.mono (by omega)))
  clear c1 c2 hb3 hn
  have hn := hn3
  clear hn3
  have a2 := G1.out.at'.x
  have b2 := G2.out.at'.x
  rw [Nat.zero_add] at a2 b2
  go_wp2
  go_ret
  exact ⟨rfl, HB.out⟩
end Go.Proofs.YtcfkkceidlpdkaaDoor
