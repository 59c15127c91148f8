/- WithHead, WithGain, WithConduct: the model's and the program's. Condition (the program's): the table of math/bits is laid. -/
import Derived.Test.YtljbppladjnadaaDoorChkI
namespace Go.Proofs.YtljbppladjnadaaDoor
open Go.RowKit
attribute [local go_sem] run_store_float
set_option linter.unusedSimpArgs false

/-- The code, and the ground, of a change at a cell that leads to H. -/
def withN (G H : Gd) (c : Int) : Int := if askedN G c = 0 then madeN H else askedN G c
def withG (G H : Gd) (c : Int) : Gd := if askedN G c = 0 then madeG H else zG

theorem asked_in {G : Gd} {c : Int} (h : askedN G c = 0) : ∃ k : Nat, c = k ∧ k < 64 ∧ validB G = true ∧ isB G k = true := by
  unfold askedN at h
  split at h
  · rename_i hv
    split at h
    · rename_i hi
      obtain ⟨k, h1, h2, h3⟩ := inB_cast hi
      exact ⟨k, h1, h2, hv, h3⟩
    · cases h
  · cases h
theorem upd_has {f : Nat → Nat} {k b : Nat} (hf : ∀ i, i < 64 → FloatKind.f32.has (f i)) (hb : FloatKind.f32.has b) : ∀ i, i < 64 → FloatKind.f32.has (upd f k b i) := fun i hi => by
  unfold upd
  split
  · exact hb
  · exact hf i hi

theorem ok_h {G : Gd} {k b : Nat} (hG : GdOk G) (hb : FloatKind.f32.has b) : GdOk { G with h := upd G.h k b } := ⟨hG.wide, hG.high, hG.x, hG.c, hG.g, upd_has hG.h hb⟩

set_option maxRecDepth 100000 in
set_option maxHeartbeats 1000000 in
theorem specWithHead_any (G : Gd) (c : Int) (b : Nat) (w : World) (hG : GdOk G) (hb : FloatKind.f32.has b) :
    Calls Tryd.prog 27 #[.agg (Grd G), .int .i64 c, .float .f32 b] w fun e w' => e = .returned (GN (withG G { G with h := upd G.h c.toNat b } c) (withN G { G with h := upd G.h c.toNat b } c)) ∧ Below w.heap.size w w' := by
  have hz := (zero_of_info zeroGround).1
  go_enter Tryd.func27, Tryd.ntmps27
  go_upto_region 1 with (fail)
  obtain ⟨W, hW, hs, g1, g2, hB⟩ := gbox2 G zG 31 31 w
  rw [hW]
  clear hW
  have G1 := Lib.hid g1
  have HB := Lib.hid hB
  have HG := Lib.hid hG
  have Hb := Lib.hid hb
  have q2 := Lib.hid (fun n => (g2.below (Quiet.below ⟨n, rfl⟩ (w.heap.size + 1 + 1)) (by omega) : GBox (World.drewN W n) (w.heap.size + 1) zG))
  have q1 := Lib.hid (fun n => (g1.below (Quiet.below ⟨n, rfl⟩ (w.heap.size + 1)) (by omega) : GBox (World.drewN W n) w.heap.size G))
  have Hs := Lib.hid hs
  clear g1 g2 hB hG hb hs
  by_cases ha : askedN G c = 0
  · obtain ⟨k, rfl, hk, _, _⟩ := asked_in ha
    have R1 := Lib.hid (show withG G { G with h := upd G.h (k : Int).toNat b } k = madeG { G with h := upd G.h k b } by simp only [withG, ha, if_true]; rfl)
    have R2 := Lib.hid (show withN G { G with h := upd G.h (k : Int).toNat b } k = madeN { G with h := upd G.h k b } by simp only [withN, ha, if_true]; rfl)
    have Ha := Lib.hid ha
    clear ha
    go_upto_region 4 with (go_at_call 58; have hc := (l01Asked_any G k _ _ G1.out.at' HG.out); rw [Ha.out] at hc; refine hc.mono ?_; clear hc; rintro e w' ⟨rfl, n, rfl⟩)
    obtain ⟨V, hV⟩ : ∃ V, World.drewN W n = V := ⟨_, rfl⟩
    have p1 := q1.out n
    have p2 := q2.out n
    have B1 := Lib.hid (HB.out.trans (Quiet.below ⟨n, rfl⟩ _ : Below w.heap.size W (World.drewN W n)))
    have z1 : V.heap.size = w.heap.size + 1 + 1 := by rw [← hV]; exact Hs.out
    rw [hV] at p1 p2 B1 ⊢
    have s1 := p1.at_some (130 + k) (by omega)
    obtain ⟨u, hu⟩ := Option.isSome_iff_exists.1 s1
    have f1 := p1.free (130 + k) (by omega)
    have P3 := Lib.hid (p1.putH hk (x := b))
    have P4 := Lib.hid (p2.far (b' := w.heap.size) (k := 130 + k) (v := .float .f32 b) (by omega))
    have B2 := Lib.hid (B1.out.setCell (p := ⟨w.heap.size, 130 + k, none⟩) (Nat.le_refl _) (.float .f32 b))
    clear p1 p2 hV q1 q2 G1 s1
    go_upto_region 5 with (fail)
    obtain ⟨X, hX⟩ : ∃ X, V.setCell ⟨w.heap.size, 130 + k, none⟩ (.float .f32 b) = X := ⟨_, rfl⟩
    have z2 : X.heap.size = w.heap.size + 1 + 1 := by rw [← hX, World.size_setCell]; exact z1
    rw [hX] at P3 P4 B2 ⊢
    clear hX hu f1
    go_wp2_with (first | (go_at_call 59; refine (l01Made_any { G with h := upd G.h k b } _ _ P3.out.at' (by omega) (ok_h HG.out Hb.out)).mono ?_; rintro e Y ⟨rfl, hy⟩; unfold GN; have P5 := Lib.hid (P4.out.below hy (by omega))) | (refine wpList_store_mid rfl 31 _ _ rfl _ 0 (Grd (madeG { G with h := upd G.h k b })) rfl rfl (by rw [Grd_size]; exact P5.out.there) (by rw [Grd_size]; exact infoGround) (Grd_one _) ?_))
    refine bodyPost_ret (ret_GN rfl rfl rfl P5.out.store.range) rfl ⟨by rw [R1.out, R2.out], below_setCells _ (by omega) _ _ _ (B2.out.trans (hy.mono (by omega)))⟩
  · have hne : (askedN G c != 0) = true := by simpa [bne] using ha
    have R1 := Lib.hid (show withG G { G with h := upd G.h c.toNat b } c = zG by simp only [withG, ha, if_false])
    have R2 := Lib.hid (show withN G { G with h := upd G.h c.toNat b } c = askedN G c by simp only [withN, ha, if_false])
    clear ha
    go_wp2_with (first | (go_at_call 58; refine (l01Asked_any G c _ _ G1.out.at' HG.out).mono ?_; rintro e w' ⟨rfl, n, rfl⟩) | (refine wpList_store_mid rfl 31 _ _ rfl _ 0 (Grd zG) rfl rfl (by rw [Grd_size]; exact (q2.out n).there) (by rw [Grd_size]; exact infoGround) (Grd_one _) ?_))
    refine bodyPost_ret (ret_GN rfl rfl rfl (q2.out n).store.range) rfl ⟨by rw [R1.out, R2.out], below_setCells _ (by omega) _ _ _ (HB.out.trans (Quiet.below ⟨n, rfl⟩ _))⟩

set_option maxRecDepth 100000 in
set_option maxHeartbeats 1000000 in
theorem implWithHead_any (G : Gd) (c : Int) (b : Nat) (w : World) (hG : GdOk G) (l1 : -9223372036854775808 ≤ c) (l2 : c ≤ 9223372036854775807) (hb : FloatKind.f32.has b) (hT : TabAt w) :
    Calls Tryd.prog 28 #[.agg (Grd G), .int .i64 c, .float .f32 b] w fun e w' => e = .returned (GN (withG G { G with h := upd G.h c.toNat b } c) (withN G { G with h := upd G.h c.toNat b } c)) ∧ Below w.heap.size w w' := by
  have hz := (zero_of_info zeroGround).1
  go_enter Tryd.func28, Tryd.ntmps28
  go_upto_region 1 with (fail)
  obtain ⟨W, hW, hs, g1, g2, hB⟩ := gbox2 G zG 31 31 w
  rw [hW]
  clear hW
  have G1 := Lib.hid g1
  have G2 := Lib.hid g2
  have HB := Lib.hid hB
  have HG := Lib.hid hG
  have Hb := Lib.hid hb
  have HT := Lib.hid (hT.below hB (tab_lt hT))
  have hT0 := Lib.hid hT
  clear g1 g2 hB hG hb hT
  by_cases ha : askedN G c = 0
  · obtain ⟨k, rfl, hk, _, _⟩ := asked_in ha
    have R1 := Lib.hid (show withG G { G with h := upd G.h (k : Int).toNat b } k = madeG { G with h := upd G.h k b } by simp only [withG, ha, if_true]; rfl)
    have R2 := Lib.hid (show withN G { G with h := upd G.h (k : Int).toNat b } k = madeN { G with h := upd G.h k b } by simp only [withN, ha, if_true]; rfl)
    have Ha := Lib.hid ha
    clear ha
    go_upto_region 4 with (go_at_call 60; have hc := (checkCell_any G k l1 l2 _ _ G1.out.at' (by omega) HG.out HT.out); rw [Ha.out] at hc; refine hc.mono ?_; clear hc; rintro e V ⟨rfl, hv⟩)
    have p1 := G1.out.below hv (by omega)
    have p2 := G2.out.below hv (by omega)
    have z1 := hv.size
    have B1 := Lib.hid (HB.out.trans (hv.mono (by omega)))
    have T1 := Lib.hid (HT.out.below hv (tab_lt HT.out))
    have s1 := p1.at_some (130 + k) (by omega)
    obtain ⟨u, hu⟩ := Option.isSome_iff_exists.1 s1
    have f1 := p1.free (130 + k) (by omega)
    have P3 := Lib.hid (p1.putH hk (x := b))
    have P4 := Lib.hid (p2.far (b' := w.heap.size) (k := 130 + k) (v := .float .f32 b) (by omega))
    have B2 := Lib.hid (B1.out.setCell (p := ⟨w.heap.size, 130 + k, none⟩) (Nat.le_refl _) (.float .f32 b))
    have T2 := Lib.hid (T1.out.below (n := w.heap.size) ((Below.refl _ _).setCell (p := ⟨w.heap.size, 130 + k, none⟩) (Nat.le_refl _) (.float .f32 b)) (by have := tab_lt hT0.out; omega))
    clear p1 p2 G1 G2 s1 hv T1
    go_upto_region 5 with (fail)
    obtain ⟨X, hX⟩ : ∃ X, V.setCell ⟨w.heap.size, 130 + k, none⟩ (.float .f32 b) = X := ⟨_, rfl⟩
    have z2 : X.heap.size = V.heap.size := by rw [← hX, World.size_setCell]
    rw [hX] at P3 P4 B2 T2 ⊢
    clear hX hu f1 hz
    have r3 := P3.out.range
    go_wp2_with (first | (refine wpList_load_mid rfl 31 _ rfl w.heap.size 0 rfl (GrdL { G with h := upd G.h k b }) _ r3 Tryd.underlying31 rfl (by rw [GrdL_length]; exact infoGround) ?_) | (go_at_call 61; refine (ifValid_any { G with h := upd G.h k b } _ (ok_h HG.out Hb.out) T2.out).mono ?_; rintro e Y ⟨rfl, hy⟩; unfold GN; have P5 := Lib.hid (P4.out.below hy (by omega))) | (refine wpList_store_mid rfl 31 _ _ rfl _ 0 (Grd (madeG { G with h := upd G.h k b })) rfl rfl (by rw [Grd_size]; exact P5.out.there) (by rw [Grd_size]; exact infoGround) (Grd_one _) ?_))
    refine bodyPost_ret (ret_GN rfl rfl rfl P5.out.store.range) rfl ⟨by rw [R1.out, R2.out], below_setCells _ (by omega) _ _ _ (B2.out.trans (hy.mono (by omega)))⟩
  · have hne : (askedN G c != 0) = true := by simpa [bne] using ha
    have R1 := Lib.hid (show withG G { G with h := upd G.h c.toNat b } c = zG by simp only [withG, ha, if_false])
    have R2 := Lib.hid (show withN G { G with h := upd G.h c.toNat b } c = askedN G c by simp only [withN, ha, if_false])
    clear ha
    go_wp2_with (first | (go_at_call 60; refine (checkCell_any G c l1 l2 _ _ G1.out.at' (by omega) HG.out HT.out).mono ?_; rintro e V ⟨rfl, hv⟩; have P2 := Lib.hid (G2.out.below hv (by omega))) | (refine wpList_store_mid rfl 31 _ _ rfl _ 0 (Grd zG) rfl rfl (by rw [Grd_size]; exact P2.out.there) (by rw [Grd_size]; exact infoGround) (Grd_one _) ?_))
    refine bodyPost_ret (ret_GN rfl rfl rfl P2.out.store.range) rfl ⟨by rw [R1.out, R2.out], below_setCells _ (by omega) _ _ _ (HB.out.trans (hv.mono (by omega)))⟩

theorem ok_g {G : Gd} {k b : Nat} (hG : GdOk G) (hb : FloatKind.f32.has b) : GdOk { G with g := upd G.g k b } := ⟨hG.wide, hG.high, hG.x, hG.c, upd_has hG.g hb, hG.h⟩

set_option maxRecDepth 100000 in
set_option maxHeartbeats 1000000 in
theorem specWithGain_any (G : Gd) (c : Int) (b : Nat) (w : World) (hG : GdOk G) (hb : FloatKind.f32.has b) :
    Calls Tryd.prog 30 #[.agg (Grd G), .int .i64 c, .float .f32 b] w fun e w' => e = .returned (GN (withG G { G with g := upd G.g c.toNat b } c) (withN G { G with g := upd G.g c.toNat b } c)) ∧ Below w.heap.size w w' := by
  have hz := (zero_of_info zeroGround).1
  go_enter Tryd.func30, Tryd.ntmps30
  go_upto_region 1 with (fail)
  obtain ⟨W, hW, hs, g1, g2, hB⟩ := gbox2 G zG 31 31 w
  rw [hW]
  clear hW
  have G1 := Lib.hid g1
  have HB := Lib.hid hB
  have HG := Lib.hid hG
  have Hb := Lib.hid hb
  have q2 := Lib.hid (fun n => (g2.below (Quiet.below ⟨n, rfl⟩ (w.heap.size + 1 + 1)) (by omega) : GBox (World.drewN W n) (w.heap.size + 1) zG))
  have q1 := Lib.hid (fun n => (g1.below (Quiet.below ⟨n, rfl⟩ (w.heap.size + 1)) (by omega) : GBox (World.drewN W n) w.heap.size G))
  have Hs := Lib.hid hs
  clear g1 g2 hB hG hb hs
  by_cases ha : askedN G c = 0
  · obtain ⟨k, rfl, hk, _, _⟩ := asked_in ha
    have R1 := Lib.hid (show withG G { G with g := upd G.g (k : Int).toNat b } k = madeG { G with g := upd G.g k b } by simp only [withG, ha, if_true]; rfl)
    have R2 := Lib.hid (show withN G { G with g := upd G.g (k : Int).toNat b } k = madeN { G with g := upd G.g k b } by simp only [withN, ha, if_true]; rfl)
    have Ha := Lib.hid ha
    clear ha
    go_upto_region 4 with (go_at_call 58; have hc := (l01Asked_any G k _ _ G1.out.at' HG.out); rw [Ha.out] at hc; refine hc.mono ?_; clear hc; rintro e w' ⟨rfl, n, rfl⟩)
    obtain ⟨V, hV⟩ : ∃ V, World.drewN W n = V := ⟨_, rfl⟩
    have p1 := q1.out n
    have p2 := q2.out n
    have B1 := Lib.hid (HB.out.trans (Quiet.below ⟨n, rfl⟩ _ : Below w.heap.size W (World.drewN W n)))
    have z1 : V.heap.size = w.heap.size + 1 + 1 := by rw [← hV]; exact Hs.out
    rw [hV] at p1 p2 B1 ⊢
    have s1 := p1.at_some (66 + k) (by omega)
    obtain ⟨u, hu⟩ := Option.isSome_iff_exists.1 s1
    have f1 := p1.free (66 + k) (by omega)
    have P3 := Lib.hid (p1.putG hk (x := b))
    have P4 := Lib.hid (p2.far (b' := w.heap.size) (k := 66 + k) (v := .float .f32 b) (by omega))
    have B2 := Lib.hid (B1.out.setCell (p := ⟨w.heap.size, 66 + k, none⟩) (Nat.le_refl _) (.float .f32 b))
    clear p1 p2 hV q1 q2 G1 s1
    go_upto_region 5 with (fail)
    obtain ⟨X, hX⟩ : ∃ X, V.setCell ⟨w.heap.size, 66 + k, none⟩ (.float .f32 b) = X := ⟨_, rfl⟩
    have z2 : X.heap.size = w.heap.size + 1 + 1 := by rw [← hX, World.size_setCell]; exact z1
    rw [hX] at P3 P4 B2 ⊢
    clear hX hu f1
    go_wp2_with (first | (go_at_call 59; refine (l01Made_any { G with g := upd G.g k b } _ _ P3.out.at' (by omega) (ok_g HG.out Hb.out)).mono ?_; rintro e Y ⟨rfl, hy⟩; unfold GN; have P5 := Lib.hid (P4.out.below hy (by omega))) | (refine wpList_store_mid rfl 31 _ _ rfl _ 0 (Grd (madeG { G with g := upd G.g k b })) rfl rfl (by rw [Grd_size]; exact P5.out.there) (by rw [Grd_size]; exact infoGround) (Grd_one _) ?_))
    refine bodyPost_ret (ret_GN rfl rfl rfl P5.out.store.range) rfl ⟨by rw [R1.out, R2.out], below_setCells _ (by omega) _ _ _ (B2.out.trans (hy.mono (by omega)))⟩
  · have hne : (askedN G c != 0) = true := by simpa [bne] using ha
    have R1 := Lib.hid (show withG G { G with g := upd G.g c.toNat b } c = zG by simp only [withG, ha, if_false])
    have R2 := Lib.hid (show withN G { G with g := upd G.g c.toNat b } c = askedN G c by simp only [withN, ha, if_false])
    clear ha
    go_wp2_with (first | (go_at_call 58; refine (l01Asked_any G c _ _ G1.out.at' HG.out).mono ?_; rintro e w' ⟨rfl, n, rfl⟩) | (refine wpList_store_mid rfl 31 _ _ rfl _ 0 (Grd zG) rfl rfl (by rw [Grd_size]; exact (q2.out n).there) (by rw [Grd_size]; exact infoGround) (Grd_one _) ?_))
    refine bodyPost_ret (ret_GN rfl rfl rfl (q2.out n).store.range) rfl ⟨by rw [R1.out, R2.out], below_setCells _ (by omega) _ _ _ (HB.out.trans (Quiet.below ⟨n, rfl⟩ _))⟩

set_option maxRecDepth 100000 in
set_option maxHeartbeats 1000000 in
theorem implWithGain_any (G : Gd) (c : Int) (b : Nat) (w : World) (hG : GdOk G) (l1 : -9223372036854775808 ≤ c) (l2 : c ≤ 9223372036854775807) (hb : FloatKind.f32.has b) (hT : TabAt w) :
    Calls Tryd.prog 31 #[.agg (Grd G), .int .i64 c, .float .f32 b] w fun e w' => e = .returned (GN (withG G { G with g := upd G.g c.toNat b } c) (withN G { G with g := upd G.g c.toNat b } c)) ∧ Below w.heap.size w w' := by
  have hz := (zero_of_info zeroGround).1
  go_enter Tryd.func31, Tryd.ntmps31
  go_upto_region 1 with (fail)
  obtain ⟨W, hW, hs, g1, g2, hB⟩ := gbox2 G zG 31 31 w
  rw [hW]
  clear hW
  have G1 := Lib.hid g1
  have G2 := Lib.hid g2
  have HB := Lib.hid hB
  have HG := Lib.hid hG
  have Hb := Lib.hid hb
  have HT := Lib.hid (hT.below hB (tab_lt hT))
  have hT0 := Lib.hid hT
  clear g1 g2 hB hG hb hT
  by_cases ha : askedN G c = 0
  · obtain ⟨k, rfl, hk, _, _⟩ := asked_in ha
    have R1 := Lib.hid (show withG G { G with g := upd G.g (k : Int).toNat b } k = madeG { G with g := upd G.g k b } by simp only [withG, ha, if_true]; rfl)
    have R2 := Lib.hid (show withN G { G with g := upd G.g (k : Int).toNat b } k = madeN { G with g := upd G.g k b } by simp only [withN, ha, if_true]; rfl)
    have Ha := Lib.hid ha
    clear ha
    go_upto_region 4 with (go_at_call 60; have hc := (checkCell_any G k l1 l2 _ _ G1.out.at' (by omega) HG.out HT.out); rw [Ha.out] at hc; refine hc.mono ?_; clear hc; rintro e V ⟨rfl, hv⟩)
    have p1 := G1.out.below hv (by omega)
    have p2 := G2.out.below hv (by omega)
    have z1 := hv.size
    have B1 := Lib.hid (HB.out.trans (hv.mono (by omega)))
    have T1 := Lib.hid (HT.out.below hv (tab_lt HT.out))
    have s1 := p1.at_some (66 + k) (by omega)
    obtain ⟨u, hu⟩ := Option.isSome_iff_exists.1 s1
    have f1 := p1.free (66 + k) (by omega)
    have P3 := Lib.hid (p1.putG hk (x := b))
    have P4 := Lib.hid (p2.far (b' := w.heap.size) (k := 66 + k) (v := .float .f32 b) (by omega))
    have B2 := Lib.hid (B1.out.setCell (p := ⟨w.heap.size, 66 + k, none⟩) (Nat.le_refl _) (.float .f32 b))
    have T2 := Lib.hid (T1.out.below (n := w.heap.size) ((Below.refl _ _).setCell (p := ⟨w.heap.size, 66 + k, none⟩) (Nat.le_refl _) (.float .f32 b)) (by have := tab_lt hT0.out; omega))
    clear p1 p2 G1 G2 s1 hv T1
    go_upto_region 5 with (fail)
    obtain ⟨X, hX⟩ : ∃ X, V.setCell ⟨w.heap.size, 66 + k, none⟩ (.float .f32 b) = X := ⟨_, rfl⟩
    have z2 : X.heap.size = V.heap.size := by rw [← hX, World.size_setCell]
    rw [hX] at P3 P4 B2 T2 ⊢
    clear hX hu f1 hz
    have r3 := P3.out.range
    go_wp2_with (first | (refine wpList_load_mid rfl 31 _ rfl w.heap.size 0 rfl (GrdL { G with g := upd G.g k b }) _ r3 Tryd.underlying31 rfl (by rw [GrdL_length]; exact infoGround) ?_) | (go_at_call 61; refine (ifValid_any { G with g := upd G.g k b } _ (ok_g HG.out Hb.out) T2.out).mono ?_; rintro e Y ⟨rfl, hy⟩; unfold GN; have P5 := Lib.hid (P4.out.below hy (by omega))) | (refine wpList_store_mid rfl 31 _ _ rfl _ 0 (Grd (madeG { G with g := upd G.g k b })) rfl rfl (by rw [Grd_size]; exact P5.out.there) (by rw [Grd_size]; exact infoGround) (Grd_one _) ?_))
    refine bodyPost_ret (ret_GN rfl rfl rfl P5.out.store.range) rfl ⟨by rw [R1.out, R2.out], below_setCells _ (by omega) _ _ _ (B2.out.trans (hy.mono (by omega)))⟩
  · have hne : (askedN G c != 0) = true := by simpa [bne] using ha
    have R1 := Lib.hid (show withG G { G with g := upd G.g c.toNat b } c = zG by simp only [withG, ha, if_false])
    have R2 := Lib.hid (show withN G { G with g := upd G.g c.toNat b } c = askedN G c by simp only [withN, ha, if_false])
    clear ha
    go_wp2_with (first | (go_at_call 60; refine (checkCell_any G c l1 l2 _ _ G1.out.at' (by omega) HG.out HT.out).mono ?_; rintro e V ⟨rfl, hv⟩; have P2 := Lib.hid (G2.out.below hv (by omega))) | (refine wpList_store_mid rfl 31 _ _ rfl _ 0 (Grd zG) rfl rfl (by rw [Grd_size]; exact P2.out.there) (by rw [Grd_size]; exact infoGround) (Grd_one _) ?_))
    refine bodyPost_ret (ret_GN rfl rfl rfl P2.out.store.range) rfl ⟨by rw [R1.out, R2.out], below_setCells _ (by omega) _ _ _ (HB.out.trans (hv.mono (by omega)))⟩

theorem ok_c {G : Gd} {k b : Nat} (hG : GdOk G) (hb : FloatKind.f32.has b) : GdOk { G with c := upd G.c k b } := ⟨hG.wide, hG.high, hG.x, upd_has hG.c hb, hG.g, hG.h⟩

set_option maxRecDepth 100000 in
set_option maxHeartbeats 1000000 in
theorem specWithConduct_any (G : Gd) (c : Int) (b : Nat) (w : World) (hG : GdOk G) (hb : FloatKind.f32.has b) :
    Calls Tryd.prog 32 #[.agg (Grd G), .int .i64 c, .float .f32 b] w fun e w' => e = .returned (GN (withG G { G with c := upd G.c c.toNat b } c) (withN G { G with c := upd G.c c.toNat b } c)) ∧ Below w.heap.size w w' := by
  have hz := (zero_of_info zeroGround).1
  go_enter Tryd.func32, Tryd.ntmps32
  go_upto_region 1 with (fail)
  obtain ⟨W, hW, hs, g1, g2, hB⟩ := gbox2 G zG 31 31 w
  rw [hW]
  clear hW
  have G1 := Lib.hid g1
  have HB := Lib.hid hB
  have HG := Lib.hid hG
  have Hb := Lib.hid hb
  have q2 := Lib.hid (fun n => (g2.below (Quiet.below ⟨n, rfl⟩ (w.heap.size + 1 + 1)) (by omega) : GBox (World.drewN W n) (w.heap.size + 1) zG))
  have q1 := Lib.hid (fun n => (g1.below (Quiet.below ⟨n, rfl⟩ (w.heap.size + 1)) (by omega) : GBox (World.drewN W n) w.heap.size G))
  have Hs := Lib.hid hs
  clear g1 g2 hB hG hb hs
  by_cases ha : askedN G c = 0
  · obtain ⟨k, rfl, hk, _, _⟩ := asked_in ha
    have R1 := Lib.hid (show withG G { G with c := upd G.c (k : Int).toNat b } k = madeG { G with c := upd G.c k b } by simp only [withG, ha, if_true]; rfl)
    have R2 := Lib.hid (show withN G { G with c := upd G.c (k : Int).toNat b } k = madeN { G with c := upd G.c k b } by simp only [withN, ha, if_true]; rfl)
    have Ha := Lib.hid ha
    clear ha
    go_upto_region 4 with (go_at_call 58; have hc := (l01Asked_any G k _ _ G1.out.at' HG.out); rw [Ha.out] at hc; refine hc.mono ?_; clear hc; rintro e w' ⟨rfl, n, rfl⟩)
    obtain ⟨V, hV⟩ : ∃ V, World.drewN W n = V := ⟨_, rfl⟩
    have p1 := q1.out n
    have p2 := q2.out n
    have B1 := Lib.hid (HB.out.trans (Quiet.below ⟨n, rfl⟩ _ : Below w.heap.size W (World.drewN W n)))
    have z1 : V.heap.size = w.heap.size + 1 + 1 := by rw [← hV]; exact Hs.out
    rw [hV] at p1 p2 B1 ⊢
    have s1 := p1.at_some (2 + k) (by omega)
    obtain ⟨u, hu⟩ := Option.isSome_iff_exists.1 s1
    have f1 := p1.free (2 + k) (by omega)
    have P3 := Lib.hid (p1.putC hk (x := b))
    have P4 := Lib.hid (p2.far (b' := w.heap.size) (k := 2 + k) (v := .float .f32 b) (by omega))
    have B2 := Lib.hid (B1.out.setCell (p := ⟨w.heap.size, 2 + k, none⟩) (Nat.le_refl _) (.float .f32 b))
    clear p1 p2 hV q1 q2 G1 s1
    go_upto_region 5 with (fail)
    obtain ⟨X, hX⟩ : ∃ X, V.setCell ⟨w.heap.size, 2 + k, none⟩ (.float .f32 b) = X := ⟨_, rfl⟩
    have z2 : X.heap.size = w.heap.size + 1 + 1 := by rw [← hX, World.size_setCell]; exact z1
    rw [hX] at P3 P4 B2 ⊢
    clear hX hu f1
    go_wp2_with (first | (go_at_call 59; refine (l01Made_any { G with c := upd G.c k b } _ _ P3.out.at' (by omega) (ok_c HG.out Hb.out)).mono ?_; rintro e Y ⟨rfl, hy⟩; unfold GN; have P5 := Lib.hid (P4.out.below hy (by omega))) | (refine wpList_store_mid rfl 31 _ _ rfl _ 0 (Grd (madeG { G with c := upd G.c k b })) rfl rfl (by rw [Grd_size]; exact P5.out.there) (by rw [Grd_size]; exact infoGround) (Grd_one _) ?_))
    refine bodyPost_ret (ret_GN rfl rfl rfl P5.out.store.range) rfl ⟨by rw [R1.out, R2.out], below_setCells _ (by omega) _ _ _ (B2.out.trans (hy.mono (by omega)))⟩
  · have hne : (askedN G c != 0) = true := by simpa [bne] using ha
    have R1 := Lib.hid (show withG G { G with c := upd G.c c.toNat b } c = zG by simp only [withG, ha, if_false])
    have R2 := Lib.hid (show withN G { G with c := upd G.c c.toNat b } c = askedN G c by simp only [withN, ha, if_false])
    clear ha
    go_wp2_with (first | (go_at_call 58; refine (l01Asked_any G c _ _ G1.out.at' HG.out).mono ?_; rintro e w' ⟨rfl, n, rfl⟩) | (refine wpList_store_mid rfl 31 _ _ rfl _ 0 (Grd zG) rfl rfl (by rw [Grd_size]; exact (q2.out n).there) (by rw [Grd_size]; exact infoGround) (Grd_one _) ?_))
    refine bodyPost_ret (ret_GN rfl rfl rfl (q2.out n).store.range) rfl ⟨by rw [R1.out, R2.out], below_setCells _ (by omega) _ _ _ (HB.out.trans (Quiet.below ⟨n, rfl⟩ _))⟩

set_option maxRecDepth 100000 in
set_option maxHeartbeats 1000000 in
theorem implWithConduct_any (G : Gd) (c : Int) (b : Nat) (w : World) (hG : GdOk G) (l1 : -9223372036854775808 ≤ c) (l2 : c ≤ 9223372036854775807) (hb : FloatKind.f32.has b) (hT : TabAt w) :
    Calls Tryd.prog 33 #[.agg (Grd G), .int .i64 c, .float .f32 b] w fun e w' => e = .returned (GN (withG G { G with c := upd G.c c.toNat b } c) (withN G { G with c := upd G.c c.toNat b } c)) ∧ Below w.heap.size w w' := by
  have hz := (zero_of_info zeroGround).1
  go_enter Tryd.func33, Tryd.ntmps33
  go_upto_region 1 with (fail)
  obtain ⟨W, hW, hs, g1, g2, hB⟩ := gbox2 G zG 31 31 w
  rw [hW]
  clear hW
  have G1 := Lib.hid g1
  have G2 := Lib.hid g2
  have HB := Lib.hid hB
  have HG := Lib.hid hG
  have Hb := Lib.hid hb
  have HT := Lib.hid (hT.below hB (tab_lt hT))
  have hT0 := Lib.hid hT
  clear g1 g2 hB hG hb hT
  by_cases ha : askedN G c = 0
  · obtain ⟨k, rfl, hk, _, _⟩ := asked_in ha
    have R1 := Lib.hid (show withG G { G with c := upd G.c (k : Int).toNat b } k = madeG { G with c := upd G.c k b } by simp only [withG, ha, if_true]; rfl)
    have R2 := Lib.hid (show withN G { G with c := upd G.c (k : Int).toNat b } k = madeN { G with c := upd G.c k b } by simp only [withN, ha, if_true]; rfl)
    have Ha := Lib.hid ha
    clear ha
    go_upto_region 4 with (go_at_call 60; have hc := (checkCell_any G k l1 l2 _ _ G1.out.at' (by omega) HG.out HT.out); rw [Ha.out] at hc; refine hc.mono ?_; clear hc; rintro e V ⟨rfl, hv⟩)
    have p1 := G1.out.below hv (by omega)
    have p2 := G2.out.below hv (by omega)
    have z1 := hv.size
    have B1 := Lib.hid (HB.out.trans (hv.mono (by omega)))
    have T1 := Lib.hid (HT.out.below hv (tab_lt HT.out))
    have s1 := p1.at_some (2 + k) (by omega)
    obtain ⟨u, hu⟩ := Option.isSome_iff_exists.1 s1
    have f1 := p1.free (2 + k) (by omega)
    have P3 := Lib.hid (p1.putC hk (x := b))
    have P4 := Lib.hid (p2.far (b' := w.heap.size) (k := 2 + k) (v := .float .f32 b) (by omega))
    have B2 := Lib.hid (B1.out.setCell (p := ⟨w.heap.size, 2 + k, none⟩) (Nat.le_refl _) (.float .f32 b))
    have T2 := Lib.hid (T1.out.below (n := w.heap.size) ((Below.refl _ _).setCell (p := ⟨w.heap.size, 2 + k, none⟩) (Nat.le_refl _) (.float .f32 b)) (by have := tab_lt hT0.out; omega))
    clear p1 p2 G1 G2 s1 hv T1
    go_upto_region 5 with (fail)
    obtain ⟨X, hX⟩ : ∃ X, V.setCell ⟨w.heap.size, 2 + k, none⟩ (.float .f32 b) = X := ⟨_, rfl⟩
    have z2 : X.heap.size = V.heap.size := by rw [← hX, World.size_setCell]
    rw [hX] at P3 P4 B2 T2 ⊢
    clear hX hu f1 hz
    have r3 := P3.out.range
    go_wp2_with (first | (refine wpList_load_mid rfl 31 _ rfl w.heap.size 0 rfl (GrdL { G with c := upd G.c k b }) _ r3 Tryd.underlying31 rfl (by rw [GrdL_length]; exact infoGround) ?_) | (go_at_call 61; refine (ifValid_any { G with c := upd G.c k b } _ (ok_c HG.out Hb.out) T2.out).mono ?_; rintro e Y ⟨rfl, hy⟩; unfold GN; have P5 := Lib.hid (P4.out.below hy (by omega))) | (refine wpList_store_mid rfl 31 _ _ rfl _ 0 (Grd (madeG { G with c := upd G.c k b })) rfl rfl (by rw [Grd_size]; exact P5.out.there) (by rw [Grd_size]; exact infoGround) (Grd_one _) ?_))
    refine bodyPost_ret (ret_GN rfl rfl rfl P5.out.store.range) rfl ⟨by rw [R1.out, R2.out], below_setCells _ (by omega) _ _ _ (B2.out.trans (hy.mono (by omega)))⟩
  · have hne : (askedN G c != 0) = true := by simpa [bne] using ha
    have R1 := Lib.hid (show withG G { G with c := upd G.c c.toNat b } c = zG by simp only [withG, ha, if_false])
    have R2 := Lib.hid (show withN G { G with c := upd G.c c.toNat b } c = askedN G c by simp only [withN, ha, if_false])
    clear ha
    go_wp2_with (first | (go_at_call 60; refine (checkCell_any G c l1 l2 _ _ G1.out.at' (by omega) HG.out HT.out).mono ?_; rintro e V ⟨rfl, hv⟩; have P2 := Lib.hid (G2.out.below hv (by omega))) | (refine wpList_store_mid rfl 31 _ _ rfl _ 0 (Grd zG) rfl rfl (by rw [Grd_size]; exact P2.out.there) (by rw [Grd_size]; exact infoGround) (Grd_one _) ?_))
    refine bodyPost_ret (ret_GN rfl rfl rfl P2.out.store.range) rfl ⟨by rw [R1.out, R2.out], below_setCells _ (by omega) _ _ _ (HB.out.trans (hv.mono (by omega)))⟩
end Go.Proofs.YtljbppladjnadaaDoor
