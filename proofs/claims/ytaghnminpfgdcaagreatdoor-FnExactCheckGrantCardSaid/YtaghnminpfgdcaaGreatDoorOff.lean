/- Offices: what a block holds that holds one; the law's copy and comparison; an argument that is one, opened. Condition: at most 2^20 watches. -/
import Derived.Test.YtaghnminpfgdcaaGreatDoorWt
namespace Go.Proofs.YtaghnminpfgdcaaGreatDoor
open Go Go.ChangeShapes Go.WideShapes Go.ChangeAt Go.RowKit Go.Deep Go.Shelf
attribute [local go_sem] run_store_float
set_option linter.unusedSimpArgs false
set_option linter.unusedVariables false
set_option maxRecDepth 100000
/-- An office's numbers: its ground, and where its list is. -/
structure Ofc where
  G : Gd
  p : Option Addr
  n : Nat
  c : Nat
def OfL (B : Ofc) : List Value := GrdL B.G ++ [Value.slice B.p B.n B.c]
def OfA (B : Ofc) : Array Value := (OfL B).toArray
theorem OfL_length (B : Ofc) : (OfL B).length = 196 := by simp [OfL, GrdL_length]
theorem OfA_size (B : Ofc) : (OfA B).size = 196 := by simp [OfA, OfL_length]
theorem OfA_toList (B : Ofc) : (OfA B).toList = OfL B := rfl
theorem OfL_one (B : Ofc) : ∀ v ∈ OfL B, v.oneCell' = true := by
  intro v hv
  simp only [OfL, List.mem_append, List.mem_cons, List.not_mem_nil, or_false] at hv
  rcases hv with hv | rfl
  · exact GrdL_one _ _ hv
  · rfl
theorem OfA_one (B : Ofc) : (OfA B).all (·.oneCell') = true := all_oneCell_toArray (OfL_one B)
structure OfAt (w : World) (b o : Nat) (B : Ofc) : Prop where
  g : GrdAt w b o B.G
  s : w.cell? ⟨b, o + 195, none⟩ = some (.slice B.p B.n B.c)
theorem ofAt {w : World} {b o : Nat} {B : Ofc} (hr : w.rangeAt b o (OfL B)) : OfAt w b o B := by
  unfold OfL at hr
  obtain ⟨r1, hc⟩ := rangeAt_append hr
  rw [GrdL_length] at hc
  exact ⟨grdAt r1, hc 0 _ rfl⟩
theorem rangeAt_joinO {w : World} {b o n : Nat} {l r : List Value} (h1 : w.rangeAt b o l) (hn : l.length = n) (h2 : w.rangeAt b (o + n) r) : w.rangeAt b o (l ++ r) := by
  intro j v hv
  by_cases hj : j < l.length
  · rw [List.getElem?_append_left hj] at hv
    exact h1 j v hv
  · rw [List.getElem?_append_right (by omega), hn] at hv
    have := h2 (j - n) v hv
    rwa [show o + n + (j - n) = o + j by omega] at this
theorem range_1 {w : World} {b o : Nat} {v : Value} (h : w.cell? ⟨b, o, none⟩ = some v) : w.rangeAt b o [v] := fun j u hu => by
  have hj : j = 0 := by have := (List.getElem?_eq_some_iff.1 hu).1; simpa using this
  subst hj
  simp at hu
  subst hu
  exact h
theorem OfAt.range {w : World} {b o : Nat} {B : Ofc} (h : OfAt w b o B) : w.rangeAt b o (OfL B) := by
  unfold OfL
  exact rangeAt_joinO h.g.range (GrdL_length _) (range_1 h.s)
theorem OfAt.below {n : Nat} {w w' : World} {b o : Nat} {B : Ofc} (h : OfAt w b o B) (hb : Below n w w') (hn : b < n) : OfAt w' b o B :=
  ⟨h.g.below hb hn, (hb.cell (p := ⟨b, o + 195, none⟩) hn).trans h.s⟩
structure OfBox (W : World) (b : Nat) (B : Ofc) : Prop where
  at' : OfAt W b 0 B
  there : W.there b 0 196
theorem there_lessO {W : World} {b o n m : Nat} (h : W.there b o n) (hm : m ≤ n) : W.there b o m := fun j hj => h j (by omega)
theorem OfBox.grd {W : World} {b : Nat} {B : Ofc} (h : OfBox W b B) : GBox W b B.G := ⟨h.at'.g, there_lessO h.there (by omega)⟩
theorem OfBox.range {W : World} {b : Nat} {B : Ofc} (h : OfBox W b B) : W.rangeAt b 0 (OfL B) := h.at'.range
theorem OfBox.below {n : Nat} {W W' : World} {b : Nat} {B : Ofc} (h : OfBox W b B) (hb : Below n W W') (hn : b < n) : OfBox W' b B :=
  ⟨h.at'.below hb hn, there_below h.there hb hn⟩
theorem OfBox.lt {W : World} {b : Nat} {B : Ofc} (h : OfBox W b B) : b < W.heap.size := h.grd.lt
theorem OfBox.s {W : World} {b : Nat} {B : Ofc} (h : OfBox W b B) : W.cell? ⟨b, 195, none⟩ = some (.slice B.p B.n B.c) := by have := h.at'.s; rwa [Nat.zero_add] at this
theorem OfBox.at_some {W : World} {b : Nat} {B : Ofc} (h : OfBox W b B) (k : Nat) (hk : k < 196) : (W.cell? ⟨b, k, none⟩).isSome = true := by
  have := (h.there k hk).1
  rwa [Nat.zero_add] at this
theorem OfBox.free {W : World} {b : Nat} {B : Ofc} (h : OfBox W b B) (k : Nat) (hk : k < 196) : W.frozen? ⟨b, k, none⟩ = false := by
  have := (h.there k hk).2
  rwa [Nat.zero_add] at this
theorem OfBox.far {W : World} {b b' k : Nat} {B : Ofc} {v : Value} (h : OfBox W b B) (hne : b' ≠ b) : OfBox (W.setCell ⟨b', k, none⟩ v) b B :=
  ⟨⟨(h.grd.far hne).at', (cell_other (fun e => hne (by injection e))).trans h.at'.s⟩, there_setCell h.there⟩
theorem OfBox.fars {b b' : Nat} {B : Ofc} (hne : b' ≠ b) : ∀ {vs : List Value} {k : Nat} {W : World}, OfBox W b B → OfBox (W.setCells b' k vs) b B
  | [], _, _, h => h
  | v :: vs, k, W, h => by rw [World.setCells]; exact OfBox.fars hne (h.far hne)
theorem OfBox.store {W : World} {b : Nat} {B C : Ofc} (h : OfBox W b B) : OfBox (W.setCells b 0 (OfL C)) b C :=
  ⟨ofAt (World.rangeAt_setCells_same _ _ _ _ (by rw [OfL_length]; exact h.there)), World.there_setCells h.there _ _ _⟩
theorem OfBox.storeGr {W : World} {b : Nat} {B : Ofc} {G : Gd} (h : OfBox W b B) : OfBox (W.setCells b 0 (GrdL G)) b { B with G := G } := by
  have hs : (W.setCells b 0 (GrdL G)).rangeAt b (0 + 195) [Value.slice B.p B.n B.c] := World.rangeAt_setCells_apart (range_1 h.at'.s) _ _ _ (.inr (by rw [GrdL_length]; simp))
  exact ⟨⟨grdAt (World.rangeAt_setCells_same _ _ _ _ (by rw [GrdL_length]; exact there_lessO h.there (by omega))), hs 0 _ rfl⟩, World.there_setCells h.there _ _ _⟩
theorem OfBox.putS {W : World} {b n c : Nat} {p : Option Addr} {B : Ofc} (h : OfBox W b B) : OfBox (W.setCell ⟨b, 195, none⟩ (.slice p n c)) b { B with p := p, n := n, c := c } := by
  have hg := h.at'.g
  have e : ∀ {o : Nat} {v : Value}, o ≠ 195 → W.cell? ⟨b, o, none⟩ = some v → (W.setCell ⟨b, 195, none⟩ (.slice p n c)).cell? ⟨b, o, none⟩ = some v := fun hne hr => (cell_same_block (Ne.symm hne)).trans hr
  refine ⟨⟨⟨e (by omega) hg.wide, e (by omega) hg.high, range_setCell_far hg.c (.inr (.inr (by rw [Fld_length]; omega))), range_setCell_far hg.g (.inr (.inr (by rw [Fld_length]; omega))), range_setCell_far hg.h (.inr (.inr (by rw [Fld_length]; omega))), e (by omega) hg.x⟩, ?_⟩, there_setCell h.there⟩
  rw [Nat.zero_add]
  exact World.cell?_setCell_same' _ _ _ (h.at_some 195 (by omega))
theorem OfBox.of_row {W : World} {b : Nat} {B : Ofc} {t : TypeId} (h : W.heap[b]? = some (.cells (OfA B) t)) : OfBox W b B :=
  ⟨ofAt (rangeAt_row h), there_row h (OfA_size B)⟩
theorem obox1 (B : Ofc) (t : TypeId) (w : World) : ∃ W, w.alloc (.cells (OfA B) t) = W ∧ W.heap.size = w.heap.size + 1 ∧ OfBox W w.heap.size B ∧ Below w.heap.size w W :=
  ⟨_, rfl, by simp, .of_row (heap_alloc_last w _), (Below.refl _ _).alloc (Nat.le_refl _) _⟩
theorem obox2 (B C : Ofc) (t u : TypeId) (w : World) : ∃ W, (w.alloc (.cells (OfA B) t)).alloc (.cells (OfA C) u) = W ∧ W.heap.size = w.heap.size + 1 + 1 ∧ OfBox W w.heap.size B ∧ OfBox W (w.heap.size + 1) C ∧ Below w.heap.size w W := by
  obtain ⟨V, hV, z1, g1, b1⟩ := obox1 B t w
  obtain ⟨W, hW, z2, g2, b2⟩ := obox1 C u V
  rw [hV, hW]
  exact ⟨W, rfl, by omega, g1.below b2 (by omega), by rw [← z1]; exact g2, b1.trans (b2.mono (by omega))⟩
theorem obox3 (B C D : Ofc) (t u v : TypeId) (w : World) : ∃ W, ((w.alloc (.cells (OfA B) t)).alloc (.cells (OfA C) u)).alloc (.cells (OfA D) v) = W ∧ W.heap.size = w.heap.size + 1 + 1 + 1 ∧ OfBox W w.heap.size B ∧ OfBox W (w.heap.size + 1) C ∧ OfBox W (w.heap.size + 1 + 1) D ∧ Below w.heap.size w W := by
  obtain ⟨V, hV, z1, g1, g2, b1⟩ := obox2 B C t u w
  obtain ⟨W, hW, z2, g3, b2⟩ := obox1 D v V
  rw [hV, hW]
  exact ⟨W, rfl, by omega, g1.below b2 (by omega), g2.below b2 (by omega), by rw [← z1]; exact g3, b1.trans (b2.mono (by omega))⟩
theorem infoOffice : (Tryz.prog.info? 41).map (·.size) = some 196 := by kernel_rfl
theorem infoLOffice : (Tryz.prog.info? 30).map (·.size) = some 196 := by kernel_rfl
def zO : Ofc := { G := zG, p := none, n := 0, c := 0 }
theorem zeroOffice : (Tryz.prog.info? 41).map (fun i => (i.zero, i.size)) = some (some (.agg (OfA zO)), 196) := by kernel_rfl

set_option maxRecDepth 100000 in
set_option maxHeartbeats 2000000 in
theorem toOffice_any (G : Gd) (p : Option Addr) (c : Nat) (L : List T2) (hL : L.length ≤ 1048576) (w : World) (hp : TsAt w p L) :
    Calls Tryz.prog 15 #[.agg (OfA ⟨G, p, L.length, c⟩)] w fun e w' => ∃ b, e = .returned (.agg (OfA ⟨G, some ⟨b, 0, none⟩, L.length, L.length⟩)) ∧ w.heap.size ≤ b ∧ b < w'.heap.size ∧ TsAt w' (some ⟨b, 0, none⟩) L ∧ Below w.heap.size w w' := by
  have hz := (zero_of_info zeroOffice).1
  have TW := Lib.hid (fun V (h : TsAt V p L) => toWatchS_any p c L hL V h)
  have HP := Lib.hid hp
  obtain ⟨n, hn⟩ : ∃ n, L.length = n := ⟨_, rfl⟩
  rw [hn] at TW ⊢
  obtain ⟨B, hBe⟩ : ∃ B : Ofc, (⟨G, p, n, c⟩ : Ofc) = B := ⟨_, rfl⟩
  rw [hBe]
  clear hp hn hL
  go_enter Tryz.func15, Tryz.ntmps15
  go_upto_region 2 with (fail)
  clear hz
  obtain ⟨W, hW, hs, b1, b2, b3, hB⟩ := obox3 B zO zO 30 41 41 w
  rw [hW]
  clear hW
  have n1 : w.heap.size < W.heap.size := by omega
  have n2 : w.heap.size + 1 < W.heap.size := by omega
  have n3 : w.heap.size + 1 + 1 < W.heap.size := by omega
  clear hs
  have r1 : W.rangeAt w.heap.size 0 (GrdL G) := by have := b1.grd.range; rwa [← hBe] at this
  go_upto_region 3 with (first | (refine wpList_load_mid rfl 27 _ rfl (w.heap.size) 0 rfl (GrdL G) _ r1 Tryz.underlying27 rfl (by rw [GrdL_length]; exact infoLGround) ?_) | (go_at_call 50; refine (toGround_any G _).mono ?_; rintro e V1 ⟨rfl, hb1⟩; have t1 := there_lessO (m := 195) (b3.below hb1 n3).there (by omega)) | (refine wpList_store_mid rfl 36 _ _ rfl _ 0 (Grd G) rfl rfl (by rw [Grd_size]; exact t1) (by rw [Grd_size]; exact infoGround) (Grd_one G) ?_))
  obtain ⟨W1, hW1⟩ : ∃ W, V1.setCells (w.heap.size + 1 + 1) 0 (Grd G).toList = W := ⟨_, rfl⟩
  have c1 : OfBox W1 w.heap.size B := by rw [← hW1]; exact (b1.below hb1 n1).fars (by omega)
  have c2 : OfBox W1 (w.heap.size + 1) zO := by rw [← hW1]; exact (b2.below hb1 n2).fars (by omega)
  have c3 : OfBox W1 (w.heap.size + 1 + 1) { zO with G := G } := by rw [← hW1]; exact (b3.below hb1 n3).storeGr
  have cB : Below w.heap.size w W1 := by rw [← hW1]; exact below_setCells _ (by omega) _ _ _ (hB.trans (hb1.mono (by omega)))
  rw [hW1]
  clear hW1 r1 b1 b2 b3 hB n1 n2 n3 hb1 t1
  have s1 : W1.cell? ⟨w.heap.size, 195, none⟩ = some (.slice p n c) := by have := c1.s; rwa [← hBe] at this
  clear hBe
  have m1 := c1.lt
  have m2 := c2.lt
  have m3 := c3.lt
  go_upto_region 4 with (go_at_call 51; refine (TW.out _ (HP.out.keep cB)).mono ?_; rintro e V2 ⟨b, rfl, hb1, hb2, ht, hq⟩; have d2 := c2.below hq m2; have d3 := c3.below hq m3; have dB := cB.trans (hq.mono cB.size); have HT := Lib.hid ht; obtain ⟨u, hu⟩ := Option.isSome_iff_exists.1 (d3.at_some 195 (by omega)); have f4 := d3.free 195 (by omega); have n2 := Lib.hid d2.lt; have hb1' := Lib.hid (Nat.le_trans cB.size hb1); have hb9 := Lib.hid hb1; clear s1 c1 c2 c3 hq ht m1 hb1 TW)
  obtain ⟨W4, hW4⟩ : ∃ X, V2.setCell ⟨w.heap.size + 1 + 1, 195, none⟩ (.slice (some ⟨b, 0, none⟩) n n) = X := ⟨_, rfl⟩
  have c2 : OfBox W4 (w.heap.size + 1) zO := by rw [← hW4]; exact d2.far (by omega)
  have c3 : OfBox W4 (w.heap.size + 1 + 1) ⟨G, some ⟨b, 0, none⟩, n, n⟩ := by rw [← hW4]; exact d3.putS
  have cB4 : Below w.heap.size w W4 := by rw [← hW4]; exact dB.setCell (p := ⟨w.heap.size + 1 + 1, 195, none⟩) (by simp; omega) _
  have hbz : w.heap.size + 1 + 1 < b := by have := hb9.out; omega
  have ht4 : TsAt W4 (some ⟨b, 0, none⟩) L := by
    rw [← hW4]
    intro i e he
    obtain ⟨b', o', hbo, hr⟩ := HT.out i e he
    cases hbo
    exact ⟨_, _, rfl, range_setCell_far hr (.inl (by omega))⟩
  have hz4 : b < W4.heap.size := by rw [← hW4]; simpa using hb2
  rw [hW4]
  clear hW4 hu f4 d2 d3 dB cB
  have r5 := c3.range
  have t5 := c2.there
  have HT4 := Lib.hid ht4
  have HZ4 := Lib.hid hz4
  clear ht4 hz4 HT
  go_wp2_with (first | (refine wpList_load_mid rfl 41 _ rfl (w.heap.size + 1 + 1) 0 rfl (OfL ⟨G, some ⟨b, 0, none⟩, n, n⟩) _ r5 Tryz.underlying41 rfl (by rw [OfL_length]; exact infoOffice) ?_) | (refine wpList_store_mid rfl 41 _ _ rfl _ 0 (OfA ⟨G, some ⟨b, 0, none⟩, n, n⟩) rfl rfl (by rw [OfA_size]; exact t5) (by rw [OfA_size]; exact infoOffice) (OfA_one _) ?_))
  refine bodyPost_ret (results_cell_mid rfl _ _ _ 0 (OfA ⟨G, some ⟨b, 0, none⟩, n, n⟩).toList _ rfl c2.store.range Tryz.underlying41 rfl (by rw [OfA_toList, OfL_length]; exact infoOffice)) rfl ⟨b, by rw [Array.toArray_toList], hb1'.out, by rw [size_setCells]; exact HZ4.out, ?_, below_setCells _ (by omega) _ _ _ cB4⟩
  intro i e he
  obtain ⟨b', o', hbo, hr⟩ := HT4.out i e he
  cases hbo
  exact ⟨_, _, rfl, World.rangeAt_setCells_apart hr _ _ _ (.inl (by omega))⟩

set_option maxRecDepth 100000 in
set_option maxHeartbeats 2000000 in
theorem eqOffice_yes (G : Gd) (p q : Option Addr) (c d : Nat) (L : List T2) (hL : L.length ≤ 1048576) (w : World) (hp : TsAt w p L) (hq : TsAt w q L) :
    Calls Tryz.prog 19 #[.agg (OfA ⟨G, p, L.length, c⟩), .agg (OfA ⟨G, q, L.length, d⟩)] w fun e w' => e = .returned (.bool true) ∧ Below w.heap.size w w' := by
  have TW := Lib.hid (fun V (h1 : TsAt V p L) (h2 : TsAt V q L) => eqWatchS_yes p q c d L hL V h1 h2)
  have HP := Lib.hid hp
  have HQ := Lib.hid hq
  obtain ⟨n, hn⟩ : ∃ n, L.length = n := ⟨_, rfl⟩
  rw [hn] at TW ⊢
  obtain ⟨W, hW, hs, b1, b2, hB⟩ := obox2 ⟨G, p, n, c⟩ ⟨G, q, n, d⟩ 41 41 w
  have r1 : W.rangeAt w.heap.size 0 (GrdL G) := b1.grd.range
  have r2 : W.rangeAt (w.heap.size + 1) 0 (GrdL G) := b2.grd.range
  have s1 := Lib.hid (fun V (hV : Below W.heap.size W V) => (hV.cell (p := ⟨w.heap.size, 195, none⟩) (by show w.heap.size < W.heap.size; omega)).trans b1.s)
  have s2 := Lib.hid (fun V (hV : Below W.heap.size W V) => (hV.cell (p := ⟨w.heap.size + 1, 195, none⟩) (by show w.heap.size + 1 < W.heap.size; omega)).trans b2.s)
  obtain ⟨B, hBe⟩ : ∃ B : Ofc, (⟨G, p, n, c⟩ : Ofc) = B := ⟨_, rfl⟩
  obtain ⟨C, hCe⟩ : ∃ C : Ofc, (⟨G, q, n, d⟩ : Ofc) = C := ⟨_, rfl⟩
  rw [hBe, hCe] at hW
  rw [hBe, hCe]
  have HB := Lib.hid hB
  clear b1 b2 hp hq hn hL hBe hCe hs hB
  go_enter Tryz.func19, Tryz.ntmps19
  go_upto_region 1 with (fail)
  try rw [hW]
  clear hW
  go_upto_region 3 with (first | (refine wpList_load_mid rfl 36 _ rfl (w.heap.size) 0 rfl (GrdL G) _ r1 Tryz.underlying36 rfl (by rw [GrdL_length]; exact infoGround) ?_) | (refine wpList_load_mid rfl 36 _ rfl (w.heap.size + 1) 0 rfl (GrdL G) _ r2 Tryz.underlying36 rfl (by rw [GrdL_length]; exact infoGround) ?_) | (go_at_call 18; refine (eqGround_yes G _).mono ?_; rintro e V1 ⟨rfl, hb1⟩))
  have k1 := s1.out V1 hb1
  have k2 := s2.out V1 hb1
  have cB := HB.out.trans (hb1.mono HB.out.size)
  try simp only at k1 k2
  clear r1 r2 s1 s2 hb1 HB
  go_wp2_with (go_at_call 56; refine (TW.out _ (HP.out.keep cB) (HQ.out.keep cB)).mono ?_; rintro e V2 ⟨rfl, hb2⟩; have HB2 := Lib.hid (cB.trans (hb2.mono cB.size)); clear hb2)
  go_ret
  exact ⟨rfl, HB2.out⟩

theorem typesOf : Tryz.prog.cellTypes Tryz.prog.depth 30 = some (22 :: 22 :: (List.replicate 192 23 ++ [25, 28])) := by kernel_rfl
theorem cellsOf' : Tryz.prog.cellsOf 30 = 196 := by kernel_rfl
theorem ofl_at (n i a b c d e : Nat) (h : i < n) : (a :: b :: (List.replicate n c ++ [d, e]))[2 + i]? = some c := by
  rw [show 2 + i = i + 1 + 1 by omega, List.getElem?_cons_succ, List.getElem?_cons_succ, List.getElem?_append_left (by simpa using h)]
  simp [h]
theorem ofl_mid (n a b c d e : Nat) : (a :: b :: (List.replicate n c ++ [d, e]))[n + 1 + 1]? = some d := by
  rw [List.getElem?_cons_succ, List.getElem?_cons_succ, List.getElem?_append_right (by simp)]
  simp
theorem ofl_far (n a b c d e : Nat) : (a :: b :: (List.replicate n c ++ [d, e]))[n + 1 + 1 + 1]? = some e := by
  rw [List.getElem?_cons_succ, List.getElem?_cons_succ, List.getElem?_append_right (by simp)]
  simp
theorem ofl_len (n a b c d e : Nat) : (a :: b :: (List.replicate n c ++ [d, e])).length = n + 4 := by simp
theorem cell_ws {W : World} {r : Reach} {base : Nat} {v : Value} (h : Cell.okWide Tryz.prog W r base 28 v) : ∃ a len cap, v = .slice a len cap := by
  simp only [Cell.okWide, Tryz.underlying28] at h
  cases v <;> simp_all [Cell.ok]

set_option maxRecDepth 100000 in
theorem okWide_off {W : World} {base : Nat} {v : Value} (h : Value.okWide Tryz.prog W .any base 30 v) : ∃ B, v = .agg (OfA B) ∧ GdOk B.G := by
  simp only [Value.okWide, Tryz.underlying30] at h
  obtain ⟨cs, rfl, hsz, ts, hts, _, hc⟩ := h
  rw [typesOf] at hts
  obtain rfl := Option.some.inj hts
  rw [cellsOf'] at hsz
  have hlen := ofl_len 192 22 22 23 25 28
  have at' : ∀ i u, i < 196 → (22 :: 22 :: (List.replicate 192 23 ++ [25, (28 : Nat)]))[i]? = some u → ∃ v, cs[i]? = some v ∧ Cell.okWide Tryz.prog W .any base u v := fun i u hi hu => by
    have hv : cs[i]? = some cs[i] := Array.getElem?_eq_getElem (by omega)
    obtain ⟨u', hu', ho⟩ := hc i _ hv
    rw [hlen, Nat.mod_eq_of_lt (by omega), hu] at hu'
    obtain rfl := Option.some.inj hu'
    exact ⟨_, hv, ho⟩
  obtain ⟨v0, h0, o0⟩ := at' 0 _ (by omega) rfl
  obtain ⟨wide, rfl, kw⟩ := cell_i8 o0
  obtain ⟨v1, h1, o1⟩ := at' 1 _ (by omega) rfl
  obtain ⟨high, rfl, kh⟩ := cell_i8 o1
  obtain ⟨v2, h2, o2⟩ := at' 194 _ (by omega) (ofl_mid 192 _ _ _ _ _)
  obtain ⟨x, rfl, kx⟩ := cell_u64 o2
  obtain ⟨v3, h3, o3⟩ := at' 195 _ (by omega) (ofl_far 192 _ _ _ _ _)
  obtain ⟨p, n, c, rfl⟩ := cell_ws o3
  have hf : ∀ i, ∃ b, i < 192 → cs[2 + i]? = some (.float .f32 b) ∧ FloatKind.f32.has b := fun i => by
    by_cases hi : i < 192
    · obtain ⟨v, hv, ho⟩ := at' (2 + i) 23 (by omega) (ofl_at 192 i _ _ _ _ _ hi)
      obtain ⟨b, rfl, hb⟩ := cell_f32 ho
      exact ⟨b, fun _ => ⟨hv, hb⟩⟩
    · exact ⟨0, fun h => absurd h hi⟩
  have F := fun i (hi : i < 192) => (Classical.choose_spec (hf i) hi)
  refine ⟨{ G := { wide := wide, high := high, c := fun i => Classical.choose (hf i), g := fun i => Classical.choose (hf (64 + i)), h := fun i => Classical.choose (hf (128 + i)), x := x }, p := p, n := n, c := c }, ?_, ⟨kw, kh, kx, fun i hi => (F i (by omega)).2, fun i hi => (F (64 + i) (by omega)).2, fun _ _ => trivial⟩⟩
  congr 1
  apply Array.ext_getElem?
  intro j
  have hl : ∀ B, (OfA B)[j]? = (OfL B)[j]? := fun B => by simp [OfA]
  rw [hl]
  unfold OfL
  by_cases a0 : j < 195
  · rw [List.getElem?_append_left (by rw [GrdL_length]; exact a0)]
    by_cases e0 : j = 0
    · subst e0; exact h0
    by_cases e1 : j = 1
    · subst e1; exact h1
    obtain ⟨i, rfl⟩ : ∃ i, j = i + 1 + 1 := ⟨j - 2, by omega⟩
    simp only [GrdL, List.getElem?_cons_succ]
    by_cases a1 : i < 64
    · rw [List.getElem?_append_left (by rw [Fld_length]; exact a1), Array.getElem?_toList, Fld_at _ i a1, show i + 1 + 1 = 2 + i by omega]
      exact (F i (by omega)).1
    rw [List.getElem?_append_right (by rw [Fld_length]; omega), Fld_length]
    by_cases a2 : i - 64 < 64
    · rw [List.getElem?_append_left (by rw [Fld_length]; exact a2), Array.getElem?_toList, Fld_at _ _ a2, show i + 1 + 1 = 2 + (64 + (i - 64)) by omega]
      exact (F (64 + (i - 64)) (by omega)).1
    rw [List.getElem?_append_right (by rw [Fld_length]; omega), Fld_length]
    by_cases a3 : i - 64 - 64 < 64
    · rw [List.getElem?_append_left (by rw [Fld_length]; exact a3), Array.getElem?_toList, Fld_at _ _ a3, show i + 1 + 1 = 2 + (128 + (i - 64 - 64)) by omega]
      exact (F (128 + (i - 64 - 64)) (by omega)).1
    rw [List.getElem?_append_right (by rw [Fld_length]; omega), Fld_length]
    obtain rfl : i = 192 := by omega
    exact h2
  · rw [List.getElem?_append_right (by rw [GrdL_length]; omega), GrdL_length]
    by_cases a3 : j = 195
    · subst a3; exact h3
    · rw [Array.getElem?_eq_none (by omega), List.getElem?_eq_none (by simp; omega)]
section
variable {H : Type} {enc : TypeId × Value → H} {w : World} {base : Nat} {spare : Nat → Bool} {held : Bool}
theorem ofFields : ∃ f0 f1 : Field, Tryz.prog.underlying 30 = some (.struct #[f0, f1]) ∧ f1.offset = 195 ∧ f1.type = 28 := by
  have h := Tryz.underlying30
  refine ⟨_, _, h, ?_, ?_⟩
  all_goals kernel_rfl
theorem cellsWs : Tryz.prog.cellsOf 28 = 1 := by kernel_rfl
/-- An office among the arguments, opened. -/
theorem open_off {v : Value} {d : DataW H} {ps : List MemPlace} (hv : ∃ B, v = .agg (OfA B) ∧ GdOk B.G) (h : DataW.Trod enc Tryz.prog w base spare held 30 v d ps) :
    ∃ (G : Gd) (p : Option Addr) (c : Nat) (L : List T2), v = .agg (OfA ⟨G, p, L.length, c⟩) ∧ GdOk G ∧ L.length ≤ maxLen ∧ TsAt w p L ∧ ∀ e ∈ L, okT e := by
  obtain ⟨B, rfl, hG⟩ := hv
  obtain ⟨G, p, n, c⟩ := B
  obtain ⟨fuel, hf⟩ := h
  obtain ⟨f0, f1, hu, ho, ht⟩ := ofFields
  obtain ⟨xs, m, _, _, _, hxl, hx⟩ := DataW.trod_struct hu hf
  have g1 := hx 1 f1 rfl
  rw [ho, ht, cellsWs] at g1
  have hcs : ((OfA ⟨G, p, n, c⟩).toList.drop 195).take 1 = [Value.slice p n c] := by
    rw [OfA_toList]
    unfold OfL
    rw [show (195 : Nat) = (GrdL G).length from (GrdL_length _).symm, List.drop_left]
    rfl
  match xs, hxl with
  | [y0, y1], _ =>
    have g2 : DataW.trod enc Tryz.prog w base spare held m 28 [Value.slice p n c] = some y1 := by
      rw [← hcs]; exact g1
    obtain ⟨p', c', L, he, hL, hp, hok⟩ := open_ts (v := .slice p n c) (d := y1.1) (ps := y1.2) ⟨_, _, _, rfl⟩ ⟨m, g2⟩
    cases he
    exact ⟨G, p, c, L, rfl, hG, hL, hp, hok⟩
end
end Go.Proofs.YtaghnminpfgdcaaGreatDoor
