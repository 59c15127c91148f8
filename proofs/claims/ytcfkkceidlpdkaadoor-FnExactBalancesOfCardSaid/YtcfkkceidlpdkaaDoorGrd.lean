/- Grounds as values and in memory; the law's copy of a ground is the ground. No condition. -/
import Derived.Test.YtcfkkceidlpdkaaDoorFld
import Derived.Lib.Hide
import Derived.Deep.Cut
import Derived.WalkLawsBesides
namespace Go.Proofs.YtcfkkceidlpdkaaDoor
open Go.RowKit Go.WideShapes
attribute [local go_sem] run_store_float
set_option linter.unusedSimpArgs false

/-- A ground's numbers. -/
structure Gd where
  wide : Int
  high : Int
  c : Nat → Nat
  g : Nat → Nat
  h : Nat → Nat
  x : Int

def GrdL (G : Gd) : List Value := Value.int .i8 G.wide :: Value.int .i8 G.high :: ((Fld G.c).toList ++ ((Fld G.g).toList ++ ((Fld G.h).toList ++ [Value.int .u64 G.x])))
def Grd (G : Gd) : Array Value := (GrdL G).toArray
theorem GrdL_length (G : Gd) : (GrdL G).length = 195 := by simp [GrdL, Fld_size]
theorem Grd_size (G : Gd) : (Grd G).size = 195 := by simp [Grd, GrdL_length]
theorem Grd_toList (G : Gd) : (Grd G).toList = GrdL G := rfl
theorem GrdL_one (G : Gd) : ∀ v ∈ GrdL G, v.oneCell' = true := by
  intro v hv
  have hF : ∀ f, v ∈ (Fld f).toList → v.oneCell' = true := fun f hm => (Array.all_eq_true_iff_forall_mem.1 (Fld_one f)) v (by simpa using hm)
  simp only [GrdL, List.mem_cons, List.mem_append, List.not_mem_nil, or_false] at hv
  rcases hv with rfl | rfl | hv | hv | hv | rfl
  · rfl
  · rfl
  · exact hF _ hv
  · exact hF _ hv
  · exact hF _ hv
  · rfl
theorem Grd_one (G : Gd) : (Grd G).all (·.oneCell') = true := all_oneCell_toArray (GrdL_one G)

theorem rangeAt_append {w : World} {b o : Nat} {l r : List Value} (h : w.rangeAt b o (l ++ r)) : w.rangeAt b o l ∧ w.rangeAt b (o + l.length) r := by
  refine ⟨fun j v hv => h j v (by rw [List.getElem?_append_left (List.getElem?_eq_some_iff.1 hv).1]; exact hv), fun j v hv => ?_⟩
  have := h (l.length + j) v (by rw [List.getElem?_append_right (by omega)]; simpa using hv)
  rwa [← Nat.add_assoc] at this

/-- What a block holds that holds a ground from o on. -/
structure GrdAt (w : World) (b o : Nat) (G : Gd) : Prop where
  wide : w.cell? ⟨b, o, none⟩ = some (.int .i8 G.wide)
  high : w.cell? ⟨b, o + 1, none⟩ = some (.int .i8 G.high)
  c : w.rangeAt b (o + 2) (Fld G.c).toList
  g : w.rangeAt b (o + 66) (Fld G.g).toList
  h : w.rangeAt b (o + 130) (Fld G.h).toList
  x : w.cell? ⟨b, o + 194, none⟩ = some (.int .u64 G.x)

theorem grdAt {w : World} {b o : Nat} {G : Gd} (hr : w.rangeAt b o (GrdL G)) : GrdAt w b o G := by
  have h0 := hr 0 _ rfl
  have h1 := hr 1 _ rfl
  have hc : w.rangeAt b (o + 2) ((Fld G.c).toList ++ ((Fld G.g).toList ++ ((Fld G.h).toList ++ [Value.int .u64 G.x]))) := fun j v hv => by
    have := hr (j + 2) v (by simpa [GrdL] using hv)
    rwa [show o + (j + 2) = o + 2 + j by omega] at this
  obtain ⟨r1, hc⟩ := rangeAt_append hc
  rw [Fld_length] at hc
  obtain ⟨r2, hc⟩ := rangeAt_append hc
  rw [Fld_length] at hc
  obtain ⟨r3, hc⟩ := rangeAt_append hc
  rw [Fld_length] at hc
  have h4 := hc 0 _ rfl
  exact ⟨h0, h1, r1, r2, r3, h4⟩

theorem GrdAt.below {n : Nat} {w w' : World} {b o : Nat} {G : Gd} (h : GrdAt w b o G) (hb : Below n w w') (hn : b < n) : GrdAt w' b o G :=
  ⟨(hb.cell (p := ⟨b, o, none⟩) hn).trans h.wide, (hb.cell (p := ⟨b, o + 1, none⟩) hn).trans h.high, fun j v hv => (hb.cell (p := ⟨b, o + 2 + j, none⟩) hn).trans (h.c j v hv),
   fun j v hv => (hb.cell (p := ⟨b, o + 66 + j, none⟩) hn).trans (h.g j v hv), fun j v hv => (hb.cell (p := ⟨b, o + 130 + j, none⟩) hn).trans (h.h j v hv), (hb.cell (p := ⟨b, o + 194, none⟩) hn).trans h.x⟩

theorem infoGround : (Tryd.prog.info? 32).map (·.size) = some 195 := by kernel_rfl
theorem infoLGround : (Tryd.prog.info? 27).map (·.size) = some 195 := by kernel_rfl

theorem wp_world {P : Program} {c : Code} {Q : Exit → Act → World → Prop} {a : Act} {w w' : World} (h : w = w') (hw : c.wp P Q a w') : c.wp P Q a w := by rw [h]; exact hw

def zG : Gd := { wide := 0, high := 0, c := zf, g := zf, h := zf, x := 0 }

/-- In the midst of toGround: the first k cells of the copy are there. -/
structure Mid (w : World) (G : Gd) (k : Nat) (W : World) : Prop where
  below : Below w.heap.size w W
  size : w.heap.size + 3 ≤ W.heap.size
  src : GrdAt W w.heap.size 0 G
  res : W.there (w.heap.size + 1) 0 195
  out : W.there (w.heap.size + 1 + 1) 0 195
  done : W.rangeAt (w.heap.size + 1 + 1) 0 ((GrdL G).take k)

theorem there_below {n : Nat} {w w' : World} {b o m : Nat} (h : w.there b o m) (hb : Below n w w') (hn : b < n) : w'.there b o m := fun j hj =>
  ⟨by rw [hb.cell (p := ⟨b, o + j, none⟩) hn]; exact (h j hj).1, by rw [hb.frozen (p := ⟨b, o + j, none⟩) hn]; exact (h j hj).2⟩

theorem Mid.mono {w : World} {G : Gd} {k : Nat} {W W' : World} (h : Mid w G k W) (hb : Below W.heap.size W W') : Mid w G k W' :=
  have h1 := h.size
  ⟨h.below.trans (hb.mono (by omega)), Nat.le_trans h.size hb.size, h.src.below hb (by omega), there_below h.res hb (by omega), there_below h.out hb (by omega),
   fun j v hv => (hb.cell (p := ⟨w.heap.size + 1 + 1, 0 + j, none⟩) (by show w.heap.size + 1 + 1 < _; omega)).trans (h.done j v hv)⟩

theorem Mid.put {w : World} {G : Gd} {k : Nat} {W : World} (h : Mid w G k W) (vs : List Value) (hvs : vs = ((GrdL G).drop k).take vs.length) (hk : k + vs.length ≤ 195) :
    Mid w G (k + vs.length) (W.setCells (w.heap.size + 1 + 1) k vs) := by
  have hl := GrdL_length G
  have hsz : (W.setCells (w.heap.size + 1 + 1) k vs).heap.size = W.heap.size := by
    have : ∀ (vs : List Value) (o : Nat) (W : World), (W.setCells (w.heap.size + 1 + 1) o vs).heap.size = W.heap.size := by
      intro vs
      induction vs with
      | nil => intro o W; rfl
      | cons v r ih => intro o W; rw [World.setCells, ih]; simp [World.setCell]
    exact this vs k W
  have hw : W.there (w.heap.size + 1 + 1) k vs.length := fun j hj => by
    have := h.out (k + j) (by omega)
    rwa [Nat.zero_add] at this
  have hap : ∀ {b o : Nat} {cs : List Value}, b ≠ w.heap.size + 1 + 1 → W.rangeAt b o cs → (W.setCells (w.heap.size + 1 + 1) k vs).rangeAt b o cs := fun hne hr => World.rangeAt_setCells_apart hr _ _ _ (.inl hne)
  have hone : ∀ {b o : Nat} {v : Value}, b ≠ w.heap.size + 1 + 1 → W.cell? ⟨b, o, none⟩ = some v → (W.setCells (w.heap.size + 1 + 1) k vs).cell? ⟨b, o, none⟩ = some v := fun hne hr => by
    have := hap (cs := [_]) hne (fun j v hv => by
      have hj : j = 0 := by have := (List.getElem?_eq_some_iff.1 hv).1; simpa using this
      subst hj; simp at hv; subst hv; exact hr)
    exact this 0 _ rfl
  refine ⟨below_setCells _ (by omega) _ _ _ h.below, by rw [hsz]; exact h.size, ?_, World.there_setCells h.res _ _ _, World.there_setCells h.out _ _ _, ?_⟩
  · exact ⟨hone (by omega) h.src.wide, hone (by omega) h.src.high, hap (by omega) h.src.c, hap (by omega) h.src.g, hap (by omega) h.src.h, hone (by omega) h.src.x⟩
  · intro j v hv
    have hj : j < k + vs.length := by
      have := (List.getElem?_eq_some_iff.1 hv).1
      simp at this; omega
    rw [List.getElem?_take_of_lt hj] at hv
    by_cases hjk : j < k
    · have h1 := h.done j v (by rw [List.getElem?_take_of_lt hjk]; exact hv)
      have := World.rangeAt_setCells_apart (b' := w.heap.size + 1 + 1) (o' := 0 + j) (cs := [v]) (fun i u hu => by
        have hi : i = 0 := by have := (List.getElem?_eq_some_iff.1 hu).1; simpa using this
        subst hi; simp at hu; subst hu; exact h1) (w.heap.size + 1 + 1) k vs (by right; left; simp; omega)
      exact this 0 v rfl
    · have h1 := World.rangeAt_setCells_same W (w.heap.size + 1 + 1) k vs hw (j - k) v (by
        rw [hvs, List.getElem?_take_of_lt (by omega), List.getElem?_drop]
        rw [show k + (j - k) = j by omega]; exact hv)
      rwa [show k + (j - k) = 0 + j by omega] at h1

/-- The world in which the copy begins. -/
theorem mid_start (G : Gd) (w : World) : Mid w G 0 (((w.alloc (.cells (Grd G) 27)).alloc (.cells (Grd zG) 32)).alloc (.cells (Grd zG) 32)) := by
  obtain ⟨W1, hW1⟩ : ∃ W1, w.alloc (.cells (Grd G) 27) = W1 := ⟨_, rfl⟩
  obtain ⟨W2, hW2⟩ : ∃ W2, W1.alloc (.cells (Grd zG) 32) = W2 := ⟨_, rfl⟩
  have z1 : W1.heap.size = w.heap.size + 1 := by rw [← hW1]; simp
  have z2 : W2.heap.size = w.heap.size + 1 + 1 := by rw [← hW2]; simp [z1]
  have b1 : Below w.heap.size w W1 := by rw [← hW1]; exact (Below.refl _ _).alloc (Nat.le_refl _) _
  have b2 : Below w.heap.size w W2 := by rw [← hW2]; exact b1.alloc (by omega) _
  rw [hW1, hW2]
  refine ⟨b2.alloc (by omega) _, by simp [z2], ?_, ?_, ?_, ?_⟩
  · refine grdAt (World.rangeAt_alloc ?_ _)
    rw [← hW2]
    refine World.rangeAt_alloc ?_ _
    rw [← hW1]
    exact rangeAt_row (heap_alloc_last w _)
  · refine World.there_alloc ?_ _
    have := there_row (heap_alloc_last W1 (.cells (Grd zG) 32)) (Grd_size zG)
    rw [z1] at this
    rwa [hW2] at this
  · have := there_row (heap_alloc_last W2 (.cells (Grd zG) 32)) (Grd_size zG)
    rwa [z2] at this
  · intro j v hv
    simp at hv

theorem zeroGround : (Tryd.prog.info? 32).map (fun i => (i.zero, i.size)) = some (some (.agg (Grd zG)), 195) := by kernel_rfl
theorem drop_take_fld (l : List Value) (f : Nat → Nat) (r : List Value) : (Fld f).toList = (((l ++ ((Fld f).toList ++ r)).drop l.length).take (Fld f).toList.length) := by
  rw [List.drop_left, List.take_left]

set_option maxRecDepth 100000 in
set_option maxHeartbeats 1000000 in
theorem toGround_any (G : Gd) (w : World) :
    Calls Tryd.prog 16 #[.agg (Grd G)] w fun e w' => e = .returned (.agg (Grd G)) ∧ Below w.heap.size w w' := by
  have hz := (zero_of_info zeroGround).1
  go_enter Tryd.func16, Tryd.ntmps16
  go_upto_region 2 with (fail)
  clear hz
  obtain ⟨W0, hW0⟩ : ∃ W, ((w.alloc (.cells (Grd G) 27)).alloc (.cells (Grd zG) 32)).alloc (.cells (Grd zG) 32) = W := ⟨_, rfl⟩
  have M0 : Mid w G 0 W0 := by rw [← hW0]; exact mid_start G w
  rw [hW0]
  clear hW0
  -- the two extents
  have c0 := M0.src.wide
  obtain ⟨o0, ho0⟩ := Option.isSome_iff_exists.1 (M0.out 0 (by omega)).1
  have f0 := (M0.out 0 (by omega)).2
  skip
  go_upto_region 3 with (fail)
  obtain ⟨W1, hW⟩ : ∃ W, W0.setCell ⟨w.heap.size + 1 + 1, 0, none⟩ (.int .i8 G.wide) = W := ⟨_, rfl⟩
  have M1 : Mid w G (0 + 1) W1 := by rw [← hW]; exact M0.put [.int .i8 G.wide] (by rfl) (by simp)
  rw [hW]
  clear hW c0 ho0 f0 M0
  have c1 := M1.src.high
  obtain ⟨o1, ho1⟩ := Option.isSome_iff_exists.1 (M1.out 1 (by omega)).1
  have f1 := (M1.out 1 (by omega)).2
  rw [Nat.zero_add] at ho1 f1
  rw [Nat.zero_add] at c1
  go_upto_region 4 with (fail)
  obtain ⟨W2, hW⟩ : ∃ W, W1.setCell ⟨w.heap.size + 1 + 1, 1, none⟩ (.int .i8 G.high) = W := ⟨_, rfl⟩
  have M2 : Mid w G (1 + 1) W2 := by rw [← hW]; exact M1.put [.int .i8 G.high] (by rfl) (by simp)
  rw [hW]
  clear hW c1 ho1 f1 M1
  have r2 := M2.src.c
  go_upto_region 5 with (first | (refine wpList_load_mid rfl 24 _ rfl _ (0 + 2) rfl (Fld G.c).toList _ r2 Tryd.underlying24 rfl (by rw [Fld_length]; exact info64) ?_) | (go_at_call 46; refine (toField_any G.c _).mono ?_; rintro e V2 ⟨rfl, hb2⟩; have N2 := M2.mono hb2; have t2 : V2.there (w.heap.size + 1 + 1) 2 (Fld G.c).size := (fun j hj => (by have := N2.out (2 + j) (by rw [Fld_size] at hj; omega); rwa [Nat.zero_add] at this))) | (refine wpList_store_mid rfl 30 _ _ rfl _ 2 (Fld G.c) rfl rfl t2 (by rw [Fld_size]; exact infoField) (Fld_one G.c) ?_))
  obtain ⟨W3, hW⟩ : ∃ W, V2.setCells (w.heap.size + 1 + 1) 2 (Fld G.c).toList = W := ⟨_, rfl⟩
  have M3 : Mid w G (2 + 64) W3 := by
    have := N2.put (Fld G.c).toList (drop_take_fld ([Value.int .i8 G.wide, Value.int .i8 G.high]) G.c ((Fld G.g).toList ++ ((Fld G.h).toList ++ [Value.int .u64 G.x]))) (by rw [Fld_length]; omega)
    rw [Fld_length, hW] at this
    exact this
  rw [hW]
  clear hW r2 M2 N2 t2 hb2
  have r3 := M3.src.g
  go_upto_region 6 with (first | (refine wpList_load_mid rfl 24 _ rfl _ (0 + 66) rfl (Fld G.g).toList _ r3 Tryd.underlying24 rfl (by rw [Fld_length]; exact info64) ?_) | (go_at_call 46; refine (toField_any G.g _).mono ?_; rintro e V3 ⟨rfl, hb3⟩; have N3 := M3.mono hb3; have t3 : V3.there (w.heap.size + 1 + 1) 66 (Fld G.g).size := (fun j hj => (by have := N3.out (66 + j) (by rw [Fld_size] at hj; omega); rwa [Nat.zero_add] at this))) | (refine wpList_store_mid rfl 30 _ _ rfl _ 66 (Fld G.g) rfl rfl t3 (by rw [Fld_size]; exact infoField) (Fld_one G.g) ?_))
  obtain ⟨W4, hW⟩ : ∃ W, V3.setCells (w.heap.size + 1 + 1) 66 (Fld G.g).toList = W := ⟨_, rfl⟩
  have M4 : Mid w G (66 + 64) W4 := by
    have hd : (Fld G.g).toList = (((GrdL G).drop 66).take (Fld G.g).toList.length) := by
      have := drop_take_fld (Value.int .i8 G.wide :: Value.int .i8 G.high :: (Fld G.c).toList) G.g ((Fld G.h).toList ++ [Value.int .u64 G.x])
      rw [show (Value.int .i8 G.wide :: Value.int .i8 G.high :: (Fld G.c).toList).length = 66 from by simp [Fld_size]] at this
      simpa [GrdL] using this
    have := N3.put (Fld G.g).toList hd (by rw [Fld_length]; omega)
    rw [Fld_length, hW] at this
    exact this
  rw [hW]
  clear hW r3 M3 N3 t3 hb3
  have r4 := M4.src.h
  go_upto_region 7 with (first | (refine wpList_load_mid rfl 24 _ rfl _ (0 + 130) rfl (Fld G.h).toList _ r4 Tryd.underlying24 rfl (by rw [Fld_length]; exact info64) ?_) | (go_at_call 46; refine (toField_any G.h _).mono ?_; rintro e V4 ⟨rfl, hb4⟩; have N4 := M4.mono hb4; have t4 : V4.there (w.heap.size + 1 + 1) 130 (Fld G.h).size := (fun j hj => (by have := N4.out (130 + j) (by rw [Fld_size] at hj; omega); rwa [Nat.zero_add] at this))) | (refine wpList_store_mid rfl 30 _ _ rfl _ 130 (Fld G.h) rfl rfl t4 (by rw [Fld_size]; exact infoField) (Fld_one G.h) ?_))
  obtain ⟨W5, hW⟩ : ∃ W, V4.setCells (w.heap.size + 1 + 1) 130 (Fld G.h).toList = W := ⟨_, rfl⟩
  have M5 : Mid w G (130 + 64) W5 := by
    have hd : (Fld G.h).toList = (((GrdL G).drop 130).take (Fld G.h).toList.length) := by
      have := drop_take_fld (Value.int .i8 G.wide :: Value.int .i8 G.high :: ((Fld G.c).toList ++ (Fld G.g).toList)) G.h ([Value.int .u64 G.x])
      rw [show (Value.int .i8 G.wide :: Value.int .i8 G.high :: ((Fld G.c).toList ++ (Fld G.g).toList)).length = 130 from by simp [Fld_size]] at this
      simpa [GrdL] using this
    have := N4.put (Fld G.h).toList hd (by rw [Fld_length]; omega)
    rw [Fld_length, hW] at this
    exact this
  rw [hW]
  clear hW r4 M4 N4 t4 hb4
  have c5 := M5.src.x
  obtain ⟨o5, ho5⟩ := Option.isSome_iff_exists.1 (M5.out 194 (by omega)).1
  have f5 := (M5.out 194 (by omega)).2
  rw [Nat.zero_add] at ho5 f5 c5
  go_upto_region 8 with (fail)
  obtain ⟨W6, hW⟩ : ∃ W, W5.setCell ⟨w.heap.size + 1 + 1, 194, none⟩ (.int .u64 G.x) = W := ⟨_, rfl⟩
  have M6 : Mid w G (194 + 1) W6 := by
    rw [← hW]
    refine M5.put [.int .u64 G.x] ?_ (by simp)
    have h1 : GrdL G = (Value.int .i8 G.wide :: Value.int .i8 G.high :: ((Fld G.c).toList ++ ((Fld G.g).toList ++ (Fld G.h).toList))) ++ [Value.int .u64 G.x] := by simp [GrdL]
    rw [h1, show 130 + 64 = (Value.int .i8 G.wide :: Value.int .i8 G.high :: ((Fld G.c).toList ++ ((Fld G.g).toList ++ (Fld G.h).toList))).length from by simp [Fld_size], List.drop_left]
    rfl
  rw [hW]
  clear hW c5 ho5 f5 M5
  have hr : W6.rangeAt (w.heap.size + 1 + 1) 0 (GrdL G) := by
    have := M6.done
    rwa [List.take_of_length_le (by rw [GrdL_length]; omega)] at this
  have ht : W6.there (w.heap.size + 1) 0 (Grd G).size := by rw [Grd_size]; exact M6.res
  go_wp2_with (first | (refine wpList_load_mid rfl 32 _ rfl _ 0 rfl (GrdL G) _ hr Tryd.underlying32 rfl (by rw [GrdL_length]; exact infoGround) ?_) | (refine wpList_store_mid rfl 32 _ _ rfl _ 0 (Grd G) rfl rfl ht (by rw [Grd_size]; exact infoGround) (Grd_one G) ?_))
  refine bodyPost_ret (results_cell_mid rfl _ _ _ 0 (Grd G).toList _ rfl (World.rangeAt_setCells_same _ _ _ _ (by rw [Grd_toList, GrdL_length]; exact M6.res)) Tryd.underlying32 rfl (by rw [Grd_toList, GrdL_length]; exact infoGround)) rfl ⟨by rw [Array.toArray_toList], below_setCells _ (by omega) _ _ _ M6.below⟩
end Go.Proofs.YtcfkkceidlpdkaaDoor
