/- Brines as the laws have them: taken over, held against each other, and what an argument is. Conditions: none. -/
import Derived.Test.YtikefaollfaejaaDoorBri
namespace Go.Proofs.YtikefaollfaejaaDoor
open Go.RowKit Go.Shelf Go.WideShapes
attribute [local go_sem] run_store_float
set_option linter.unusedSimpArgs false
set_option linter.unusedVariables false

set_option maxRecDepth 100000 in
set_option maxHeartbeats 2000000 in
theorem toBrine_any (B : Brn) (w : World) :
    Calls Tryd.prog 5 #[.agg (BrnA B)] w fun e w' => e = .returned (.agg (BrnA B)) ∧ Below w.heap.size w w' := by
  have hz := (zero_of_info zeroBrine).1
  go_enter Tryd.func5, Tryd.ntmps5
  go_upto_region 2 with (fail)
  clear hz
  obtain ⟨W, hW, hs, b1, b2, b3, hB⟩ := bbox3 B zB zB 29 36 36 w
  rw [hW]
  clear hW
  have n1 : w.heap.size < W.heap.size := by omega
  have n2 : w.heap.size + 1 < W.heap.size := by omega
  have n3 : w.heap.size + 1 + 1 < W.heap.size := by omega
  clear hs
  have r1 := b1.grd.range
  go_upto_region 3 with (first | (refine wpList_load_mid rfl 27 _ rfl (w.heap.size) 0 rfl (GrdL B.G) _ r1 Tryd.underlying27 rfl (by rw [GrdL_length]; exact infoLGround) ?_) | (go_at_call 12; refine (toGround_any B.G _).mono ?_; rintro e V1 ⟨rfl, hb1⟩; have t1 := there_mid (k := 0) (m := 195) (b3.below hb1 n3).there (by omega)) | (refine wpList_store_mid rfl 34 _ _ rfl _ 0 (Grd B.G) rfl rfl (by rw [Grd_size]; exact t1) (by rw [Grd_size]; exact infoGround) (Grd_one _) ?_))
  obtain ⟨W1, hW1⟩ : ∃ W, V1.setCells (w.heap.size + 1 + 1) 0 (Grd B.G).toList = W := ⟨_, rfl⟩
  have c1 : BrnBox W1 w.heap.size B := by rw [← hW1]; exact (b1.below hb1 n1).fars (by omega)
  have c2 : BrnBox W1 (w.heap.size + 1) zB := by rw [← hW1]; exact (b2.below hb1 n2).fars (by omega)
  have c3 : BrnBox W1 (w.heap.size + 1 + 1) { zB with G := B.G } := by rw [← hW1]; exact (b3.below hb1 n3).storeGr
  have cB : Below w.heap.size w W1 := by rw [← hW1]; exact below_setCells _ (by omega) _ _ _ (hB.trans (hb1.mono (by omega)))
  have m1 : w.heap.size < W1.heap.size := c1.lt
  have m2 : w.heap.size + 1 < W1.heap.size := c2.lt
  have m3 : w.heap.size + 1 + 1 < W1.heap.size := c3.lt
  rw [hW1]
  clear hW1 r1 b1 b2 b3 hB n1 n2 n3 hb1 t1
  have b1 := c1
  have b2 := c2
  have b3 := c3
  have hB := cB
  have n1 := m1
  have n2 := m2
  have n3 := m3
  clear c1 c2 c3 cB m1 m2 m3
  have r2 := b1.s
  go_upto_region 4 with (first | (refine wpList_load_mid rfl 24 _ rfl (w.heap.size) 195 rfl (Fld B.s).toList _ r2 Tryd.underlying24 rfl (by rw [Fld_length]; exact info64) ?_) | (go_at_call 13; refine (toField_any B.s _).mono ?_; rintro e V2 ⟨rfl, hb2⟩; have t2 := there_mid (k := 195) (m := 64) (b3.below hb2 n3).there (by omega)) | (refine wpList_store_mid rfl 32 _ _ rfl _ 195 (Fld B.s) rfl rfl (by rw [Fld_size]; exact t2) (by rw [Fld_size]; exact infoField) (Fld_one _) ?_))
  obtain ⟨W2, hW2⟩ : ∃ W, V2.setCells (w.heap.size + 1 + 1) 195 (Fld B.s).toList = W := ⟨_, rfl⟩
  have c1 : BrnBox W2 w.heap.size B := by rw [← hW2]; exact (b1.below hb2 n1).fars (by omega)
  have c2 : BrnBox W2 (w.heap.size + 1) zB := by rw [← hW2]; exact (b2.below hb2 n2).fars (by omega)
  have c3 : BrnBox W2 (w.heap.size + 1 + 1) { zB with G := B.G, s := B.s } := by rw [← hW2]; exact (b3.below hb2 n3).storeS
  have cB : Below w.heap.size w W2 := by rw [← hW2]; exact below_setCells _ (by omega) _ _ _ (hB.trans (hb2.mono (by omega)))
  have m1 : w.heap.size < W2.heap.size := c1.lt
  have m2 : w.heap.size + 1 < W2.heap.size := c2.lt
  have m3 : w.heap.size + 1 + 1 < W2.heap.size := c3.lt
  rw [hW2]
  clear hW2 r2 b1 b2 b3 hB n1 n2 n3 hb2 t2
  have b1 := c1
  have b2 := c2
  have b3 := c3
  have hB := cB
  have n1 := m1
  have n2 := m2
  have n3 := m3
  clear c1 c2 c3 cB m1 m2 m3
  have r3 := b1.p
  go_upto_region 5 with (first | (refine wpList_load_mid rfl 24 _ rfl (w.heap.size) 259 rfl (Fld B.p).toList _ r3 Tryd.underlying24 rfl (by rw [Fld_length]; exact info64) ?_) | (go_at_call 13; refine (toField_any B.p _).mono ?_; rintro e V3 ⟨rfl, hb3⟩; have t3 := there_mid (k := 259) (m := 64) (b3.below hb3 n3).there (by omega)) | (refine wpList_store_mid rfl 32 _ _ rfl _ 259 (Fld B.p) rfl rfl (by rw [Fld_size]; exact t3) (by rw [Fld_size]; exact infoField) (Fld_one _) ?_))
  obtain ⟨W3, hW3⟩ : ∃ W, V3.setCells (w.heap.size + 1 + 1) 259 (Fld B.p).toList = W := ⟨_, rfl⟩
  have c1 : BrnBox W3 w.heap.size B := by rw [← hW3]; exact (b1.below hb3 n1).fars (by omega)
  have c2 : BrnBox W3 (w.heap.size + 1) zB := by rw [← hW3]; exact (b2.below hb3 n2).fars (by omega)
  have c3 : BrnBox W3 (w.heap.size + 1 + 1) { zB with G := B.G, s := B.s, p := B.p } := by rw [← hW3]; exact (b3.below hb3 n3).storeP
  have cB : Below w.heap.size w W3 := by rw [← hW3]; exact below_setCells _ (by omega) _ _ _ (hB.trans (hb3.mono (by omega)))
  have m1 : w.heap.size < W3.heap.size := c1.lt
  have m2 : w.heap.size + 1 < W3.heap.size := c2.lt
  have m3 : w.heap.size + 1 + 1 < W3.heap.size := c3.lt
  rw [hW3]
  clear hW3 r3 b1 b2 b3 hB n1 n2 n3 hb3 t3
  have b1 := c1
  have b2 := c2
  have b3 := c3
  have hB := cB
  have n1 := m1
  have n2 := m2
  have n3 := m3
  clear c1 c2 c3 cB m1 m2 m3
  have r4 := b1.r
  obtain ⟨u, hu⟩ := Option.isSome_iff_exists.1 (b3.at_some 323 (by omega))
  have f4 := b3.free 323 (by omega)
  go_upto_region 6 with (fail)
  obtain ⟨W4, hW4⟩ : ∃ X, W3.setCell ⟨w.heap.size + 1 + 1, 323, none⟩ (.float .f32 B.r) = X := ⟨_, rfl⟩
  have c2 : BrnBox W4 (w.heap.size + 1) zB := by rw [← hW4]; exact b2.far (by omega)
  have c3 : BrnBox W4 (w.heap.size + 1 + 1) B := by rw [← hW4]; exact b3.putR
  have cB : Below w.heap.size w W4 := by rw [← hW4]; exact hB.setCell (p := ⟨w.heap.size + 1 + 1, 323, none⟩) (by simp; omega) _
  rw [hW4]
  clear hW4 r4 hu f4 b1 b2 b3 hB n1 n2 n3
  have r5 := c3.range
  have t5 := c2.there
  go_wp2_with (first | (refine wpList_load_mid rfl 36 _ rfl (w.heap.size + 1 + 1) 0 rfl (BrnL B) _ r5 Tryd.underlying36 rfl (by rw [BrnL_length]; exact infoBrine) ?_) | (refine wpList_store_mid rfl 36 _ _ rfl _ 0 (BrnA B) rfl rfl (by rw [BrnA_size]; exact t5) (by rw [BrnA_size]; exact infoBrine) (BrnA_one B) ?_))
  refine bodyPost_ret (results_cell_mid rfl _ _ _ 0 (BrnA B).toList _ rfl c2.store.range Tryd.underlying36 rfl (by rw [BrnA_toList, BrnL_length]; exact infoBrine)) rfl ⟨by rw [Array.toArray_toList], below_setCells _ (by omega) _ _ _ cB⟩

theorem stored_brn (A : Brn) (t : TypeId) (w : World) : ∃ U, (w.alloc (.cells (BrnA zB) t)).setCells w.heap.size 0 (BrnA A).toList = U ∧ U.heap.size = w.heap.size + 1 ∧ BrnBox U w.heap.size A ∧ Below w.heap.size w U := by
  obtain ⟨W, h, hs, g, hB⟩ := bbox1 zB t w
  rw [h]
  exact ⟨_, rfl, by rw [size_setCells, hs], g.store, below_setCells _ (Nat.le_refl _) _ _ _ hB⟩
theorem new_thereB (t : TypeId) (w : World) : (w.alloc (.cells (BrnA zB) t)).there w.heap.size 0 324 := there_row (heap_alloc_last w _) (BrnA_size zB)
structure BrnOk (B : Brn) : Prop where
  g : GdOk B.G
  s : True
  p : True
  r : True

theorem typesBr : Tryd.prog.cellTypes Tryd.prog.depth 29 = some (22 :: 22 :: (List.replicate 192 23 ++ (25 :: List.replicate 129 23))) := by kernel_rfl
theorem cellsBr : Tryd.prog.cellsOf 29 = 324 := by kernel_rfl
theorem brl_at (n m i a b c d : Nat) (h : i < n) : (a :: b :: (List.replicate n c ++ (d :: List.replicate m c)))[2 + i]? = some c := by
  rw [show 2 + i = i + 1 + 1 by omega, List.getElem?_cons_succ, List.getElem?_cons_succ, List.getElem?_append_left (by simpa using h)]
  simp [h]
theorem brl_mid (n m a b c d : Nat) : (a :: b :: (List.replicate n c ++ (d :: List.replicate m c)))[n + 1 + 1]? = some d := by
  rw [List.getElem?_cons_succ, List.getElem?_cons_succ, List.getElem?_append_right (by simp)]
  simp
theorem brl_far (n m i a b c d : Nat) (h : i < m) : (a :: b :: (List.replicate n c ++ (d :: List.replicate m c)))[n + 1 + 1 + 1 + i]? = some c := by
  rw [show n + 1 + 1 + 1 + i = (n + 1 + i) + 1 + 1 by omega, List.getElem?_cons_succ, List.getElem?_cons_succ, List.getElem?_append_right (by simp; omega)]
  simp only [List.length_replicate]
  rw [show n + 1 + i - n = i + 1 by omega, List.getElem?_cons_succ]
  simp [h]
theorem brl_len (n m a b c d : Nat) : (a :: b :: (List.replicate n c ++ (d :: List.replicate m c))).length = n + m + 3 := by simp; omega

set_option maxRecDepth 100000 in
theorem okWide_brn {W : World} {base : Nat} {v : Value} (h : Value.okWide Tryd.prog W .any base 29 v) : ∃ B, v = .agg (BrnA B) ∧ BrnOk B := by
  simp only [Value.okWide, Tryd.underlying29] at h
  obtain ⟨cs, rfl, hsz, ts, hts, _, hc⟩ := h
  rw [typesBr] at hts
  obtain rfl := Option.some.inj hts
  rw [cellsBr] at hsz
  have hlen := brl_len 192 129 22 22 23 25
  have at' : ∀ i u, i < 324 → (22 :: 22 :: (List.replicate 192 23 ++ (25 :: List.replicate 129 (23 : Nat))))[i]? = some u → ∃ v, cs[i]? = some v ∧ Cell.okWide Tryd.prog W .any base u v := fun i u hi hu => by
    have hv : cs[i]? = some cs[i] := Array.getElem?_eq_getElem (by omega)
    obtain ⟨u', hu', ho⟩ := hc i _ hv
    rw [hlen, Nat.mod_eq_of_lt (by omega), hu] at hu'
    obtain rfl := Option.some.inj hu'
    exact ⟨_, hv, ho⟩
  obtain ⟨v0, h0, o0⟩ := at' 0 _ (by omega) rfl
  obtain ⟨wide, rfl, kw⟩ := cell_i8 o0
  obtain ⟨v1, h1, o1⟩ := at' 1 _ (by omega) rfl
  obtain ⟨high, rfl, kh⟩ := cell_i8 o1
  obtain ⟨v2, h2, o2⟩ := at' 194 _ (by omega) (brl_mid 192 129 _ _ _ _)
  obtain ⟨x, rfl, kx⟩ := cell_u64 o2
  have hf : ∀ i, ∃ b, i < 192 → cs[2 + i]? = some (.float .f32 b) ∧ FloatKind.f32.has b := fun i => by
    by_cases hi : i < 192
    · obtain ⟨v, hv, ho⟩ := at' (2 + i) 23 (by omega) (brl_at 192 129 i _ _ _ _ hi)
      obtain ⟨b, rfl, hb⟩ := cell_f32 ho
      exact ⟨b, fun _ => ⟨hv, hb⟩⟩
    · exact ⟨0, fun h => absurd h hi⟩
  have hq : ∀ i, ∃ b, i < 129 → cs[195 + i]? = some (.float .f32 b) ∧ FloatKind.f32.has b := fun i => by
    by_cases hi : i < 129
    · obtain ⟨v, hv, ho⟩ := at' (195 + i) 23 (by omega) (brl_far 192 129 i _ _ _ _ hi)
      obtain ⟨b, rfl, hb⟩ := cell_f32 ho
      exact ⟨b, fun _ => ⟨hv, hb⟩⟩
    · exact ⟨0, fun h => absurd h hi⟩
  have F := fun i (hi : i < 192) => (Classical.choose_spec (hf i) hi)
  have Q := fun i (hi : i < 129) => (Classical.choose_spec (hq i) hi)
  refine ⟨{ G := { wide := wide, high := high, c := fun i => Classical.choose (hf i), g := fun i => Classical.choose (hf (64 + i)), h := fun i => Classical.choose (hf (128 + i)), x := x }, s := fun i => Classical.choose (hq i), p := fun i => Classical.choose (hq (64 + i)), r := Classical.choose (hq 128) }, ?_, ⟨kw, kh, kx, fun i hi => (F i (by omega)).2, fun i hi => (F (64 + i) (by omega)).2, fun _ _ => trivial⟩, trivial, trivial, trivial⟩
  congr 1
  apply Array.ext_getElem?
  intro j
  have hl : ∀ B, (BrnA B)[j]? = (BrnL B)[j]? := fun B => by simp [BrnA]
  rw [hl]
  unfold BrnL
  by_cases a0 : j < 195
  · rw [List.getElem?_append_left (by rw [GrdL_length]; exact a0)]
    by_cases e0 : j = 0
    · subst e0; exact h0
    by_cases e1 : j = 1
    · subst e1; exact h1
    obtain ⟨i, rfl⟩ : ∃ i, j = i + 1 + 1 := ⟨j - 2, by omega⟩
    simp only [GrdL, List.getElem?_cons_succ]
    by_cases a1 : i < 64
    · rw [List.getElem?_append_left (by rw [Fld_length]; exact a1), Array.getElem?_toList, Fld_at _ i a1, show i + 1 + 1 = 2 + i by omega]
      exact (F i (by omega)).1
    rw [List.getElem?_append_right (by rw [Fld_length]; omega), Fld_length]
    by_cases a2 : i - 64 < 64
    · rw [List.getElem?_append_left (by rw [Fld_length]; exact a2), Array.getElem?_toList, Fld_at _ _ a2, show i + 1 + 1 = 2 + (64 + (i - 64)) by omega]
      exact (F (64 + (i - 64)) (by omega)).1
    rw [List.getElem?_append_right (by rw [Fld_length]; omega), Fld_length]
    by_cases a3 : i - 64 - 64 < 64
    · rw [List.getElem?_append_left (by rw [Fld_length]; exact a3), Array.getElem?_toList, Fld_at _ _ a3, show i + 1 + 1 = 2 + (128 + (i - 64 - 64)) by omega]
      exact (F (128 + (i - 64 - 64)) (by omega)).1
    rw [List.getElem?_append_right (by rw [Fld_length]; omega), Fld_length]
    obtain rfl : i = 192 := by omega
    exact h2
  · rw [List.getElem?_append_right (by rw [GrdL_length]; omega), GrdL_length]
    by_cases a1 : j - 195 < 64
    · rw [List.getElem?_append_left (by rw [Fld_length]; exact a1), Array.getElem?_toList, Fld_at _ _ a1, show j = 195 + (j - 195) by omega, show 195 + (j - 195) - 195 = j - 195 by omega]
      exact (Q (j - 195) (by omega)).1
    rw [List.getElem?_append_right (by rw [Fld_length]; omega), Fld_length]
    by_cases a2 : j - 195 - 64 < 64
    · rw [List.getElem?_append_left (by rw [Fld_length]; exact a2), Array.getElem?_toList, Fld_at _ _ a2, show cs[j]? = cs[195 + (64 + (j - 195 - 64))]? by congr 1; omega]
      exact (Q (64 + (j - 195 - 64)) (by omega)).1
    rw [List.getElem?_append_right (by rw [Fld_length]; omega), Fld_length]
    by_cases a3 : j = 323
    · subst a3; exact (Q 128 (by omega)).1
    · rw [Array.getElem?_eq_none (by omega), List.getElem?_eq_none (by simp; omega)]
end Go.Proofs.YtikefaollfaejaaDoor
