/- A ground in a block of its own, that may be written; what allocs, stores and calls leave of it. No condition. -/
import Derived.Test.YtcfkkceidlpdkaaDoorCom
import Derived.Test.YtcfkkceidlpdkaaDoorOkG
namespace Go.Proofs.YtcfkkceidlpdkaaDoor
open Go.RowKit
set_option linter.unusedSimpArgs false

/-- Another number at a place. -/
def upd (f : Nat → Nat) (k b : Nat) : Nat → Nat := fun i => if i = k then b else f i

/-- A block holds a ground, and may be written. -/
structure GBox (W : World) (b : Nat) (G : Gd) : Prop where
  at' : GrdAt W b 0 G
  there : W.there b 0 195

theorem GrdAt.range {W : World} {b o : Nat} {G : Gd} (h : GrdAt W b o G) : W.rangeAt b o (GrdL G) := by
  intro j v hv
  have hj : j < 195 := by have := (List.getElem?_eq_some_iff.1 hv).1; rwa [GrdL_length] at this
  by_cases e0 : j = 0
  · subst e0
    obtain rfl := Option.some.inj hv
    exact h.wide
  by_cases e1 : j = 1
  · subst e1
    obtain rfl := Option.some.inj hv
    exact h.high
  obtain ⟨i, rfl⟩ : ∃ i, j = i + 1 + 1 := ⟨j - 2, by omega⟩
  simp only [GrdL, List.getElem?_cons_succ] at hv
  by_cases a1 : i < 64
  · rw [List.getElem?_append_left (by rw [Fld_length]; exact a1)] at hv
    have := h.c i v hv
    rwa [show o + 2 + i = o + (i + 1 + 1) by omega] at this
  rw [List.getElem?_append_right (by rw [Fld_length]; omega), Fld_length] at hv
  by_cases a2 : i - 64 < 64
  · rw [List.getElem?_append_left (by rw [Fld_length]; exact a2)] at hv
    have := h.g (i - 64) v hv
    rwa [show o + 66 + (i - 64) = o + (i + 1 + 1) by omega] at this
  rw [List.getElem?_append_right (by rw [Fld_length]; omega), Fld_length] at hv
  by_cases a3 : i - 64 - 64 < 64
  · rw [List.getElem?_append_left (by rw [Fld_length]; exact a3)] at hv
    have := h.h (i - 64 - 64) v hv
    rwa [show o + 130 + (i - 64 - 64) = o + (i + 1 + 1) by omega] at this
  rw [List.getElem?_append_right (by rw [Fld_length]; omega), Fld_length] at hv
  obtain rfl : i = 192 := by omega
  obtain rfl := Option.some.inj hv
  exact h.x

theorem GBox.range {W : World} {b : Nat} {G : Gd} (h : GBox W b G) : W.rangeAt b 0 (GrdL G) := h.at'.range
theorem GBox.below {n : Nat} {W W' : World} {b : Nat} {G : Gd} (h : GBox W b G) (hb : Below n W W') (hn : b < n) : GBox W' b G :=
  ⟨h.at'.below hb hn, there_below h.there hb hn⟩
theorem GBox.of_row {W : World} {b : Nat} {G : Gd} {t : TypeId} (h : W.heap[b]? = some (.cells (Grd G) t)) : GBox W b G :=
  ⟨grdAt (rangeAt_row h), there_row h (Grd_size G)⟩
theorem GBox.lt {W : World} {b : Nat} {G : Gd} (h : GBox W b G) : b < W.heap.size := World.block_lt_of_cell? W ⟨b, 0, none⟩ h.at'.wide

theorem cell_other {W : World} {p q : Addr} {v : Value} (h : p ≠ q) : (W.setCell p v).cell? q = W.cell? q := World.cell?_setCell_other _ _ _ _ h
theorem range_setCell_far {W : World} {b o b' k : Nat} {cs : List Value} {v : Value} (h : W.rangeAt b o cs) (hne : b' ≠ b ∨ k < o ∨ o + cs.length ≤ k) : (W.setCell ⟨b', k, none⟩ v).rangeAt b o cs := fun j x hx => by
  have hj : j < cs.length := (List.getElem?_eq_some_iff.1 hx).1
  rw [World.cell?_setCell_other _ _ _ _ (fun e => by
    have h1 : b' = b := by injection e
    have h2 : k = o + j := by injection e
    omega)]
  exact h j x hx
theorem there_setCell {W : World} {b o n : Nat} {p : Addr} {v : Value} (h : W.there b o n) : (W.setCell p v).there b o n := fun j hj => by
  refine ⟨?_, by rw [World.frozen?_setCell]; exact (h j hj).2⟩
  by_cases e : p = ⟨b, o + j, none⟩
  · subst e
    rw [World.cell?_setCell_same' _ _ _ (h j hj).1]
    rfl
  · rw [World.cell?_setCell_other _ _ _ _ e]
    exact (h j hj).1
/-- A store elsewhere. -/
theorem GBox.far {W : World} {b b' k : Nat} {G : Gd} {v : Value} (h : GBox W b G) (hne : b' ≠ b) : GBox (W.setCell ⟨b', k, none⟩ v) b G :=
  have hc : ∀ o, (W.setCell ⟨b', k, none⟩ v).cell? ⟨b, o, none⟩ = W.cell? ⟨b, o, none⟩ := fun o => cell_other (fun e => hne (by injection e))
  ⟨⟨(hc _).trans h.at'.wide, (hc _).trans h.at'.high, range_setCell_far h.at'.c (.inl hne), range_setCell_far h.at'.g (.inl hne), range_setCell_far h.at'.h (.inl hne), (hc _).trans h.at'.x⟩, there_setCell h.there⟩
theorem GBox.fars {b b' : Nat} {G : Gd} (hne : b' ≠ b) : ∀ {vs : List Value} {k : Nat} {W : World}, GBox W b G → GBox (W.setCells b' k vs) b G
  | [], _, _, h => h
  | v :: vs, k, W, h => by rw [World.setCells]; exact GBox.fars hne (h.far hne)

theorem Fld_upd {W : World} {b o k x : Nat} {f : Nat → Nat} (h : W.rangeAt b o (Fld f).toList) (hk : k < 64) (ht : (W.cell? ⟨b, o + k, none⟩).isSome = true) :
    (W.setCell ⟨b, o + k, none⟩ (.float .f32 x)).rangeAt b o (Fld (upd f k x)).toList := fun j v hv => by
  have hj : j < 64 := by have := (List.getElem?_eq_some_iff.1 hv).1; rwa [Fld_length] at this
  have hv' : v = .float .f32 (upd f k x j) := by
    have := Fld_at (upd f k x) j hj
    rw [Array.getElem?_toList, this] at hv
    exact (Option.some.inj hv).symm
  subst hv'
  by_cases e : j = k
  · subst e
    rw [World.cell?_setCell_same' _ _ _ ht]
    simp [upd]
  · rw [World.cell?_setCell_other _ _ _ _ (fun h => e (by have h2 : o + k = o + j := (by injection h); omega))]
    have := Grd_fld h j hj
    simpa [upd, e] using this

theorem GBox.at_some {W : World} {b : Nat} {G : Gd} (h : GBox W b G) (k : Nat) (hk : k < 195) : (W.cell? ⟨b, k, none⟩).isSome = true := by
  have := (h.there k hk).1
  rwa [Nat.zero_add] at this
theorem GBox.free {W : World} {b : Nat} {G : Gd} (h : GBox W b G) (k : Nat) (hk : k < 195) : W.frozen? ⟨b, k, none⟩ = false := by
  have := (h.there k hk).2
  rwa [Nat.zero_add] at this

theorem cell_same_block {W : World} {b k o : Nat} {v : Value} (h : k ≠ o) : (W.setCell ⟨b, k, none⟩ v).cell? ⟨b, o, none⟩ = W.cell? ⟨b, o, none⟩ := cell_other (fun e => h (by injection e))
theorem GBox.putC {W : World} {b k x : Nat} {G : Gd} (h : GBox W b G) (hk : k < 64) : GBox (W.setCell ⟨b, 2 + k, none⟩ (.float .f32 x)) b { G with c := upd G.c k x } :=
  ⟨⟨(cell_same_block (by omega)).trans h.at'.wide, (cell_same_block (by omega)).trans h.at'.high, by have := h.at'.c; rw [Nat.zero_add] at this ⊢; exact Fld_upd this hk (h.at_some _ (by omega)),
    range_setCell_far h.at'.g (by rw [Fld_length]; omega), range_setCell_far h.at'.h (by rw [Fld_length]; omega), (cell_same_block (by omega)).trans h.at'.x⟩, there_setCell h.there⟩
theorem GBox.putG {W : World} {b k x : Nat} {G : Gd} (h : GBox W b G) (hk : k < 64) : GBox (W.setCell ⟨b, 66 + k, none⟩ (.float .f32 x)) b { G with g := upd G.g k x } :=
  ⟨⟨(cell_same_block (by omega)).trans h.at'.wide, (cell_same_block (by omega)).trans h.at'.high, range_setCell_far h.at'.c (by rw [Fld_length]; omega), by have := h.at'.g; rw [Nat.zero_add] at this ⊢; exact Fld_upd this hk (h.at_some _ (by omega)),
    range_setCell_far h.at'.h (by rw [Fld_length]; omega), (cell_same_block (by omega)).trans h.at'.x⟩, there_setCell h.there⟩
theorem GBox.putH {W : World} {b k x : Nat} {G : Gd} (h : GBox W b G) (hk : k < 64) : GBox (W.setCell ⟨b, 130 + k, none⟩ (.float .f32 x)) b { G with h := upd G.h k x } :=
  ⟨⟨(cell_same_block (by omega)).trans h.at'.wide, (cell_same_block (by omega)).trans h.at'.high, range_setCell_far h.at'.c (by rw [Fld_length]; omega), range_setCell_far h.at'.g (by rw [Fld_length]; omega),
    by have := h.at'.h; rw [Nat.zero_add] at this ⊢; exact Fld_upd this hk (h.at_some _ (by omega)), (cell_same_block (by omega)).trans h.at'.x⟩, there_setCell h.there⟩
theorem GBox.putX {W : World} {b : Nat} {x : Int} {G : Gd} (h : GBox W b G) : GBox (W.setCell ⟨b, 194, none⟩ (.int .u64 x)) b { G with x := x } :=
  ⟨⟨(cell_same_block (by omega)).trans h.at'.wide, (cell_same_block (by omega)).trans h.at'.high, range_setCell_far h.at'.c (by rw [Fld_length]; omega), range_setCell_far h.at'.g (by rw [Fld_length]; omega),
    range_setCell_far h.at'.h (by rw [Fld_length]; omega), World.cell?_setCell_same' _ _ _ (h.at_some 194 (by omega))⟩, there_setCell h.there⟩
/-- A whole ground is stored. -/
theorem GBox.store {W : World} {b : Nat} {G H : Gd} (h : GBox W b G) : GBox (W.setCells b 0 (GrdL H)) b H :=
  ⟨grdAt (World.rangeAt_setCells_same _ _ _ _ (by rw [GrdL_length]; exact h.there)), World.there_setCells h.there _ _ _⟩

/-- One ground is boxed. -/
theorem gbox1 (G : Gd) (t : TypeId) (w : World) : ∃ W, w.alloc (.cells (Grd G) t) = W ∧ W.heap.size = w.heap.size + 1 ∧ GBox W w.heap.size G ∧ Below w.heap.size w W :=
  ⟨_, rfl, by simp, .of_row (heap_alloc_last w _), (Below.refl _ _).alloc (Nat.le_refl _) _⟩
/-- Two grounds are boxed. -/
theorem gbox2 (G H : Gd) (t u : TypeId) (w : World) : ∃ W, (w.alloc (.cells (Grd G) t)).alloc (.cells (Grd H) u) = W ∧ W.heap.size = w.heap.size + 1 + 1 ∧ GBox W w.heap.size G ∧ GBox W (w.heap.size + 1) H ∧ Below w.heap.size w W := by
  obtain ⟨W1, h1, z1, g1, b1⟩ := gbox1 G t w
  obtain ⟨W2, h2, z2, g2, b2⟩ := gbox1 H u W1
  refine ⟨W2, by rw [h1, h2], by omega, g1.below b2 (by omega), by rw [← z1]; exact g2, b1.trans (b2.mono (by omega))⟩

/-- The result: a ground in a block, and a number. -/
theorem results_grd_int {P : Program} {fn : Func} {p q : Tmp} {ty : TypeId} {D : TypeDesc} (h : fn.results = #[.cell p ty, .tmp q]) (tmps : Array Value) (w : World) (b : Nat) (G : Gd) (n : Int)
    (hp : tmps.getD p undef = .pointer (some ⟨b, 0, none⟩)) (hq : tmps.getD q undef = .int .i64 n) (hc : w.rangeAt b 0 (GrdL G)) (hu : P.underlying ty = some D) (hd : D.isRow = true) (hi : (P.info? ty).map (·.size) = some 195) :
    (results fn tmps).run P w = .ok (.tuple #[.agg (Grd G), .int .i64 n]) w := by
  have hp' : tmps[p]?.getD undef = .pointer (some ⟨b, 0, none⟩) := by simpa using hp
  have hq' : tmps[q]?.getD undef = .int .i64 n := by simpa using hq
  have := run_loadVar_mid (P := P) w b 0 ty (GrdL G) D hc hu hd (by rw [GrdL_length]; exact hi)
  simp [results, h, hp', hq', asAddr, this, Grd]
end Go.Proofs.YtcfkkceidlpdkaaDoor
