/- Brines: what a block holds that holds one, and what is written into it. Conditions: none. -/
import Derived.Test.YtikefaollfaejaaDoorCell
namespace Go.Proofs.YtikefaollfaejaaDoor
open Go.RowKit Go.Shelf Go.WideShapes
set_option linter.unusedSimpArgs false
set_option linter.unusedVariables false

/-- A brine's numbers. -/
structure Brn where
  G : Gd
  s : Nat → Nat
  p : Nat → Nat
  r : Nat
def BrnL (B : Brn) : List Value := GrdL B.G ++ ((Fld B.s).toList ++ ((Fld B.p).toList ++ [Value.float .f32 B.r]))
def BrnA (B : Brn) : Array Value := (BrnL B).toArray
theorem BrnL_length (B : Brn) : (BrnL B).length = 324 := by simp [BrnL, GrdL_length, Fld_size]
theorem BrnA_size (B : Brn) : (BrnA B).size = 324 := by simp [BrnA, BrnL_length]
theorem BrnA_toList (B : Brn) : (BrnA B).toList = BrnL B := rfl
theorem BrnL_one (B : Brn) : ∀ v ∈ BrnL B, v.oneCell' = true := by
  intro v hv
  have hF : ∀ f, v ∈ (Fld f).toList → v.oneCell' = true := fun f hm => (Array.all_eq_true_iff_forall_mem.1 (Fld_one f)) v (by simpa using hm)
  simp only [BrnL, List.mem_append, List.mem_cons, List.not_mem_nil, or_false] at hv
  rcases hv with hv | hv | hv | rfl
  · exact GrdL_one _ _ hv
  · exact hF _ hv
  · exact hF _ hv
  · rfl
theorem BrnA_one (B : Brn) : (BrnA B).all (·.oneCell') = true := all_oneCell_toArray (BrnL_one B)

/-- What a block holds that holds a brine from o on. -/
structure BrnAt (w : World) (b o : Nat) (B : Brn) : Prop where
  g : GrdAt w b o B.G
  s : w.rangeAt b (o + 195) (Fld B.s).toList
  p : w.rangeAt b (o + 259) (Fld B.p).toList
  r : w.cell? ⟨b, o + 323, none⟩ = some (.float .f32 B.r)
theorem brnAt {w : World} {b o : Nat} {B : Brn} (hr : w.rangeAt b o (BrnL B)) : BrnAt w b o B := by
  unfold BrnL at hr
  obtain ⟨r1, hc⟩ := rangeAt_append hr
  rw [GrdL_length] at hc
  obtain ⟨r2, hc⟩ := rangeAt_append hc
  rw [Fld_length] at hc
  obtain ⟨r3, hc⟩ := rangeAt_append hc
  rw [Fld_length] at hc
  exact ⟨grdAt r1, r2, r3, hc 0 _ rfl⟩
theorem rangeAt_join {w : World} {b o n : Nat} {l r : List Value} (h1 : w.rangeAt b o l) (hn : l.length = n) (h2 : w.rangeAt b (o + n) r) : w.rangeAt b o (l ++ r) := by
  intro j v hv
  by_cases hj : j < l.length
  · rw [List.getElem?_append_left hj] at hv
    exact h1 j v hv
  · rw [List.getElem?_append_right (by omega), hn] at hv
    have := h2 (j - n) v hv
    rwa [show o + n + (j - n) = o + j by omega] at this
theorem BrnAt.range {w : World} {b o : Nat} {B : Brn} (h : BrnAt w b o B) : w.rangeAt b o (BrnL B) := by
  unfold BrnL
  refine rangeAt_join h.g.range (GrdL_length _) (rangeAt_join h.s (Fld_length _) (rangeAt_join h.p (Fld_length _) ?_))
  intro j v hv
  have hj : j = 0 := by have := (List.getElem?_eq_some_iff.1 hv).1; simpa using this
  subst hj
  simp at hv
  subst hv
  exact h.r
theorem BrnAt.below {n : Nat} {w w' : World} {b o : Nat} {B : Brn} (h : BrnAt w b o B) (hb : Below n w w') (hn : b < n) : BrnAt w' b o B :=
  ⟨h.g.below hb hn, range_kept h.s hn _ hb, range_kept h.p hn _ hb, (hb.cell (p := ⟨b, o + 323, none⟩) hn).trans h.r⟩

/-- A block holds a brine, and may be written. -/
structure BrnBox (W : World) (b : Nat) (B : Brn) : Prop where
  at' : BrnAt W b 0 B
  there : W.there b 0 324
theorem there_less {W : World} {b o n m : Nat} (h : W.there b o n) (hm : m ≤ n) : W.there b o m := fun j hj => h j (by omega)
theorem there_mid {W : World} {b n k m : Nat} (h : W.there b 0 n) (hm : k + m ≤ n) : W.there b k m := fun j hj => by
  have := h (k + j) (by omega)
  rwa [Nat.zero_add] at this
theorem BrnBox.grd {W : World} {b : Nat} {B : Brn} (h : BrnBox W b B) : GBox W b B.G := ⟨h.at'.g, there_less h.there (by omega)⟩
theorem BrnBox.range {W : World} {b : Nat} {B : Brn} (h : BrnBox W b B) : W.rangeAt b 0 (BrnL B) := h.at'.range
theorem BrnBox.below {n : Nat} {W W' : World} {b : Nat} {B : Brn} (h : BrnBox W b B) (hb : Below n W W') (hn : b < n) : BrnBox W' b B :=
  ⟨h.at'.below hb hn, there_below h.there hb hn⟩
theorem BrnBox.lt {W : World} {b : Nat} {B : Brn} (h : BrnBox W b B) : b < W.heap.size := h.grd.lt
theorem BrnBox.s {W : World} {b : Nat} {B : Brn} (h : BrnBox W b B) : W.rangeAt b 195 (Fld B.s).toList := by have := h.at'.s; rwa [Nat.zero_add] at this
theorem BrnBox.p {W : World} {b : Nat} {B : Brn} (h : BrnBox W b B) : W.rangeAt b 259 (Fld B.p).toList := by have := h.at'.p; rwa [Nat.zero_add] at this
theorem BrnBox.r {W : World} {b : Nat} {B : Brn} (h : BrnBox W b B) : W.cell? ⟨b, 323, none⟩ = some (.float .f32 B.r) := by have := h.at'.r; rwa [Nat.zero_add] at this
theorem BrnAt.s0 {W : World} {b : Nat} {B : Brn} (h : BrnAt W b 0 B) : W.rangeAt b 195 (Fld B.s).toList := by have := h.s; rwa [Nat.zero_add] at this
theorem BrnAt.p0 {W : World} {b : Nat} {B : Brn} (h : BrnAt W b 0 B) : W.rangeAt b 259 (Fld B.p).toList := by have := h.p; rwa [Nat.zero_add] at this
theorem BrnAt.r0 {W : World} {b : Nat} {B : Brn} (h : BrnAt W b 0 B) : W.cell? ⟨b, 323, none⟩ = some (.float .f32 B.r) := by have := h.r; rwa [Nat.zero_add] at this
theorem BrnBox.at_some {W : World} {b : Nat} {B : Brn} (h : BrnBox W b B) (k : Nat) (hk : k < 324) : (W.cell? ⟨b, k, none⟩).isSome = true := by
  have := (h.there k hk).1
  rwa [Nat.zero_add] at this
theorem BrnBox.free {W : World} {b : Nat} {B : Brn} (h : BrnBox W b B) (k : Nat) (hk : k < 324) : W.frozen? ⟨b, k, none⟩ = false := by
  have := (h.there k hk).2
  rwa [Nat.zero_add] at this
theorem BrnBox.far {W : World} {b b' k : Nat} {B : Brn} {v : Value} (h : BrnBox W b B) (hne : b' ≠ b) : BrnBox (W.setCell ⟨b', k, none⟩ v) b B :=
  ⟨⟨(h.grd.far hne).at', range_setCell_far h.at'.s (.inl hne), range_setCell_far h.at'.p (.inl hne), (cell_other (fun e => hne (by injection e))).trans h.at'.r⟩, there_setCell h.there⟩
theorem BrnBox.fars {b b' : Nat} {B : Brn} (hne : b' ≠ b) : ∀ {vs : List Value} {k : Nat} {W : World}, BrnBox W b B → BrnBox (W.setCells b' k vs) b B
  | [], _, _, h => h
  | v :: vs, k, W, h => by rw [World.setCells]; exact BrnBox.fars hne (h.far hne)
/-- Another salt at a cell. -/
theorem BrnBox.putS {W : World} {b k x : Nat} {B : Brn} (h : BrnBox W b B) (hk : k < 64) : BrnBox (W.setCell ⟨b, 195 + k, none⟩ (.float .f32 x)) b { B with s := upd B.s k x } := by
  have hg := h.at'.g
  have e : ∀ {o : Nat} {v : Value}, o ≠ 195 + k → W.cell? ⟨b, o, none⟩ = some v → (W.setCell ⟨b, 195 + k, none⟩ (.float .f32 x)).cell? ⟨b, o, none⟩ = some v := fun hne hr => (cell_same_block (Ne.symm hne)).trans hr
  refine ⟨⟨⟨e (by omega) hg.wide, e (by omega) hg.high, range_setCell_far hg.c (.inr (.inr (by rw [Fld_length]; omega))), range_setCell_far hg.g (.inr (.inr (by rw [Fld_length]; omega))), range_setCell_far hg.h (.inr (.inr (by rw [Fld_length]; omega))), e (by omega) hg.x⟩, ?_, range_setCell_far h.at'.p (.inr (.inl (by omega))), e (by omega) h.at'.r⟩, there_setCell h.there⟩
  rw [Nat.zero_add]
  exact Fld_upd h.s hk (h.at_some _ (by omega))
theorem BrnBox.putG {W : World} {b k x : Nat} {B : Brn} (h : BrnBox W b B) (hk : k < 64) : BrnBox (W.setCell ⟨b, 66 + k, none⟩ (.float .f32 x)) b { B with G := { B.G with g := upd B.G.g k x } } :=
  ⟨⟨(h.grd.putG hk).at', range_setCell_far h.at'.s (.inr (.inl (by omega))), range_setCell_far h.at'.p (.inr (.inl (by omega))), (cell_same_block (by omega)).trans h.at'.r⟩, there_setCell h.there⟩
theorem BrnBox.putH {W : World} {b k x : Nat} {B : Brn} (h : BrnBox W b B) (hk : k < 64) : BrnBox (W.setCell ⟨b, 130 + k, none⟩ (.float .f32 x)) b { B with G := { B.G with h := upd B.G.h k x } } :=
  ⟨⟨(h.grd.putH hk).at', range_setCell_far h.at'.s (.inr (.inl (by omega))), range_setCell_far h.at'.p (.inr (.inl (by omega))), (cell_same_block (by omega)).trans h.at'.r⟩, there_setCell h.there⟩
theorem BrnBox.store {W : World} {b : Nat} {B C : Brn} (h : BrnBox W b B) : BrnBox (W.setCells b 0 (BrnL C)) b C :=
  ⟨brnAt (World.rangeAt_setCells_same _ _ _ _ (by rw [BrnL_length]; exact h.there)), World.there_setCells h.there _ _ _⟩
/-- The salts are stored as a whole. -/
theorem BrnBox.storeS {W : World} {b : Nat} {B : Brn} {f : Nat → Nat} (h : BrnBox W b B) : BrnBox (W.setCells b 195 (Fld f).toList) b { B with s := f } := by
  have ap : ∀ {o : Nat} {cs : List Value}, o + cs.length ≤ 195 ∨ 259 ≤ o → W.rangeAt b o cs → (W.setCells b 195 (Fld f).toList).rangeAt b o cs := fun hne hr =>
    World.rangeAt_setCells_apart hr _ _ _ (.inr (by rw [Fld_length]; omega))
  have one : ∀ {o : Nat} {v : Value}, o + 1 ≤ 195 ∨ 259 ≤ o → W.cell? ⟨b, o, none⟩ = some v → (W.setCells b 195 (Fld f).toList).cell? ⟨b, o, none⟩ = some v := fun hne hr => by
    have := ap (cs := [_]) (by simpa using hne) (fun j v hv => by
      have hj : j = 0 := by have := (List.getElem?_eq_some_iff.1 hv).1; simpa using this
      subst hj; simp at hv; subst hv; exact hr)
    exact this 0 _ rfl
  have hg := h.at'.g
  refine ⟨⟨⟨one (by omega) hg.wide, one (by omega) hg.high, ap (by rw [Fld_length]; omega) hg.c, ap (by rw [Fld_length]; omega) hg.g, ap (by rw [Fld_length]; omega) hg.h, one (by omega) hg.x⟩, ?_, ap (by omega) h.at'.p, one (by omega) h.at'.r⟩, World.there_setCells h.there _ _ _⟩
  exact World.rangeAt_setCells_same _ _ _ _ (by rw [Fld_length]; exact there_mid h.there (by omega))
/-- The springs are stored as a whole. -/
theorem BrnBox.storeP {W : World} {b : Nat} {B : Brn} {f : Nat → Nat} (h : BrnBox W b B) : BrnBox (W.setCells b 259 (Fld f).toList) b { B with p := f } := by
  have ap : ∀ {o : Nat} {cs : List Value}, o + cs.length ≤ 259 ∨ 323 ≤ o → W.rangeAt b o cs → (W.setCells b 259 (Fld f).toList).rangeAt b o cs := fun hne hr =>
    World.rangeAt_setCells_apart hr _ _ _ (.inr (by rw [Fld_length]; omega))
  have one : ∀ {o : Nat} {v : Value}, o + 1 ≤ 259 ∨ 323 ≤ o → W.cell? ⟨b, o, none⟩ = some v → (W.setCells b 259 (Fld f).toList).cell? ⟨b, o, none⟩ = some v := fun hne hr => by
    have := ap (cs := [_]) (by simpa using hne) (fun j v hv => by
      have hj : j = 0 := by have := (List.getElem?_eq_some_iff.1 hv).1; simpa using this
      subst hj; simp at hv; subst hv; exact hr)
    exact this 0 _ rfl
  have hg := h.at'.g
  refine ⟨⟨⟨one (by omega) hg.wide, one (by omega) hg.high, ap (by rw [Fld_length]; omega) hg.c, ap (by rw [Fld_length]; omega) hg.g, ap (by rw [Fld_length]; omega) hg.h, one (by omega) hg.x⟩, ap (by rw [Fld_length]; omega) h.at'.s, ?_, one (by omega) h.at'.r⟩, World.there_setCells h.there _ _ _⟩
  exact World.rangeAt_setCells_same _ _ _ _ (by rw [Fld_length]; exact there_mid h.there (by omega))
/-- The ground is stored as a whole. -/
theorem BrnBox.storeGr {W : World} {b : Nat} {B : Brn} {G : Gd} (h : BrnBox W b B) : BrnBox (W.setCells b 0 (GrdL G)) b { B with G := G } := by
  have ap : ∀ {o : Nat} {cs : List Value}, 195 ≤ o → W.rangeAt b o cs → (W.setCells b 0 (GrdL G)).rangeAt b o cs := fun hne hr =>
    World.rangeAt_setCells_apart hr _ _ _ (.inr (by rw [GrdL_length]; omega))
  have one : ∀ {o : Nat} {v : Value}, 195 ≤ o → W.cell? ⟨b, o, none⟩ = some v → (W.setCells b 0 (GrdL G)).cell? ⟨b, o, none⟩ = some v := fun hne hr => by
    have := ap (cs := [_]) (by simpa using hne) (fun j v hv => by
      have hj : j = 0 := by have := (List.getElem?_eq_some_iff.1 hv).1; simpa using this
      subst hj; simp at hv; subst hv; exact hr)
    exact this 0 _ rfl
  exact ⟨⟨grdAt (World.rangeAt_setCells_same _ _ _ _ (by rw [GrdL_length]; exact there_less h.there (by omega))), ap (by omega) h.at'.s, ap (by omega) h.at'.p, one (by omega) h.at'.r⟩, World.there_setCells h.there _ _ _⟩
/-- The room is stored. -/
theorem BrnBox.putR {W : World} {b x : Nat} {B : Brn} (h : BrnBox W b B) : BrnBox (W.setCell ⟨b, 323, none⟩ (.float .f32 x)) b { B with r := x } := by
  have hg := h.at'.g
  have e : ∀ {o : Nat} {v : Value}, o ≠ 323 → W.cell? ⟨b, o, none⟩ = some v → (W.setCell ⟨b, 323, none⟩ (.float .f32 x)).cell? ⟨b, o, none⟩ = some v := fun hne hr => (cell_same_block (Ne.symm hne)).trans hr
  refine ⟨⟨⟨e (by omega) hg.wide, e (by omega) hg.high, range_setCell_far hg.c (.inr (.inr (by rw [Fld_length]; omega))), range_setCell_far hg.g (.inr (.inr (by rw [Fld_length]; omega))), range_setCell_far hg.h (.inr (.inr (by rw [Fld_length]; omega))), e (by omega) hg.x⟩, range_setCell_far h.at'.s (.inr (.inr (by rw [Fld_length]; omega))), range_setCell_far h.at'.p (.inr (.inr (by rw [Fld_length]; omega))), ?_⟩, there_setCell h.there⟩
  rw [Nat.zero_add]
  exact World.cell?_setCell_same' _ _ _ (h.at_some 323 (by omega))
theorem BrnBox.of_row {W : World} {b : Nat} {B : Brn} {t : TypeId} (h : W.heap[b]? = some (.cells (BrnA B) t)) : BrnBox W b B :=
  ⟨brnAt (rangeAt_row h), there_row h (BrnA_size B)⟩
theorem bbox1 (B : Brn) (t : TypeId) (w : World) : ∃ W, w.alloc (.cells (BrnA B) t) = W ∧ W.heap.size = w.heap.size + 1 ∧ BrnBox W w.heap.size B ∧ Below w.heap.size w W :=
  ⟨_, rfl, by simp, .of_row (heap_alloc_last w _), (Below.refl _ _).alloc (Nat.le_refl _) _⟩
theorem bbox_in (B : Brn) (t : TypeId) (w : World) (hT : TabAt w) : ∃ W, w.alloc (.cells (BrnA B) t) = W ∧ W.heap.size = w.heap.size + 1 ∧ BrnBox W w.heap.size B ∧ Below w.heap.size w W ∧ TabAt W := by
  obtain ⟨W, h1, h2, h3, h4⟩ := bbox1 B t w
  exact ⟨W, h1, h2, h3, h4, hT.below h4 (tab_lt hT)⟩

theorem infoBrine : (Tryd.prog.info? 36).map (·.size) = some 324 := by kernel_rfl
theorem infoLBrine : (Tryd.prog.info? 29).map (·.size) = some 324 := by kernel_rfl
def zB : Brn := { G := zG, s := zf, p := zf, r := 0 }
theorem zeroBrine : (Tryd.prog.info? 36).map (fun i => (i.zero, i.size)) = some (some (.agg (BrnA zB)), 324) := by kernel_rfl
theorem infoB324 : (Tryd.prog.info? 36).map (·.size) = some 324 := infoBrine
theorem bbox2 (B C : Brn) (t u : TypeId) (w : World) : ∃ W, (w.alloc (.cells (BrnA B) t)).alloc (.cells (BrnA C) u) = W ∧ W.heap.size = w.heap.size + 1 + 1 ∧ BrnBox W w.heap.size B ∧ BrnBox W (w.heap.size + 1) C ∧ Below w.heap.size w W := by
  obtain ⟨V, hV, z1, g1, b1⟩ := bbox1 B t w
  obtain ⟨W, hW, z2, g2, b2⟩ := bbox1 C u V
  rw [hV, hW]
  exact ⟨W, rfl, by omega, g1.below b2 (by omega), by rw [← z1]; exact g2, b1.trans (b2.mono (by omega))⟩
theorem bbox3 (B C D : Brn) (t u v : TypeId) (w : World) : ∃ W, ((w.alloc (.cells (BrnA B) t)).alloc (.cells (BrnA C) u)).alloc (.cells (BrnA D) v) = W ∧ W.heap.size = w.heap.size + 1 + 1 + 1 ∧ BrnBox W w.heap.size B ∧ BrnBox W (w.heap.size + 1) C ∧ BrnBox W (w.heap.size + 1 + 1) D ∧ Below w.heap.size w W := by
  obtain ⟨V, hV, z1, g1, g2, b1⟩ := bbox2 B C t u w
  obtain ⟨W, hW, z2, g3, b2⟩ := bbox1 D v V
  rw [hV, hW]
  exact ⟨W, rfl, by omega, g1.below b2 (by omega), g2.below b2 (by omega), by rw [← z1]; exact g3, b1.trans (b2.mono (by omega))⟩
def BN (B : Brn) (n : Int) : Value := .tuple #[.agg (BrnA B), .int .i64 n]
end Go.Proofs.YtikefaollfaejaaDoor
