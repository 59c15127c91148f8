/- The program's outside: a field without the numbers of a mask. Condition: the table of math/bits is laid. -/
import Derived.Test.YtcfkkceidlpdkaaDoorIter
import Derived.Test.YtcfkkceidlpdkaaDoorCom
namespace Go.Proofs.YtcfkkceidlpdkaaDoor
open Go.RowKit Go.Shelf
attribute [local go_sem] Oper.semAt_some run_store_float
set_option linter.unusedSimpArgs false

/-- A block that holds an array and may be written. -/
structure RowAt (W : World) (b : Nat) (f : Nat → Nat) : Prop where
  range : W.rangeAt b 0 (Fld f).toList
  there : W.there b 0 64
theorem RowAt.cell {W : World} {b : Nat} {f : Nat → Nat} (h : RowAt W b f) (i : Nat) (hi : i < 64) : W.cell? ⟨b, i, none⟩ = some (.float .f32 (f i)) := by
  have := Grd_fld h.range i hi
  rwa [Nat.zero_add] at this
theorem RowAt.free {W : World} {b : Nat} {f : Nat → Nat} (h : RowAt W b f) (i : Nat) (hi : i < 64) : W.frozen? ⟨b, i, none⟩ = false := by
  have := (h.there i hi).2
  rwa [Nat.zero_add] at this
theorem rowAt_mk {W : World} {b : Nat} {f : Nat → Nat} (h1 : ∀ i, i < 64 → W.cell? ⟨b, i, none⟩ = some (.float .f32 (f i))) (h2 : ∀ i, i < 64 → W.frozen? ⟨b, i, none⟩ = false) : RowAt W b f :=
  ⟨fun j v hv => by
      have hj : j < 64 := by have := (List.getElem?_eq_some_iff.1 hv).1; rwa [Fld_length] at this
      rw [Nat.zero_add, h1 j hj, ← Fld_at f j hj]
      simpa using hv,
   fun j hj => by rw [Nat.zero_add, h1 j hj]; exact ⟨rfl, h2 j hj⟩⟩
theorem RowAt.kept {W W' : World} {row : Option Nat} {b : Nat} {f : Nat → Nat} (h : RowAt W b f) (hg : W.grownBy W' row) (hr : ∀ r, row = some r → ∃ o : Obj, W.heap[r]? = some o ∧ o.isCells = false) : RowAt W' b f :=
  rowAt_mk (fun i hi => cell_kept (h.cell i hi) hg hr) (fun i hi => (frozen_kept (h.cell i hi) hg hr).trans (h.free i hi))
theorem RowAt.below {n : Nat} {W W' : World} {b : Nat} {f : Nat → Nat} (h : RowAt W b f) (hb : Below n W W') (hn : b < n) : RowAt W' b f :=
  rowAt_mk (fun i hi => (hb.cell (p := ⟨b, i, none⟩) hn).trans (h.cell i hi)) (fun i hi => (hb.frozen (p := ⟨b, i, none⟩) hn).trans (h.free i hi))
theorem RowAt.put {W : World} {b : Nat} {f : Nat → Nat} (h : RowAt W b f) (k x : Nat) (hk : k < 64) : RowAt (W.setCell ⟨b, k, none⟩ (.float .f32 x)) b (fun i => if i = k then x else f i) :=
  rowAt_mk (fun i hi => by
      by_cases e : i = k
      · subst e
        rw [World.cell?_setCell_same _ _ _ (h.cell i hi), if_pos rfl]
      · rw [World.cell?_setCell_other _ _ _ _ (fun h => e (by injection h with _ h2 _; exact h2.symm)), if_neg e]
        exact h.cell i hi)
    (fun i hi => by rw [World.frozen?_setCell]; exact h.free i hi)
theorem RowAt.far {W : World} {b b' : Nat} {f : Nat → Nat} (h : RowAt W b f) (k : Nat) (v : Value) (hne : b' ≠ b) : RowAt (W.setCell ⟨b', k, none⟩ v) b f :=
  rowAt_mk (fun i hi => by rw [World.cell?_setCell_other _ _ _ _ (fun h => hne (by injection h))]; exact h.cell i hi)
    (fun i hi => by rw [World.frozen?_setCell]; exact h.free i hi)
theorem RowAt.congr {W : World} {b : Nat} {f g : Nat → Nat} (h : RowAt W b f) (e : ∀ i, i < 64 → f i = g i) : RowAt W b g :=
  rowAt_mk (fun i hi => by rw [h.cell i hi, e i hi]) (fun i hi => h.free i hi)

/-- A field without the numbers of a list. -/
def strike (f : Nat → Nat) (l : List Nat) (i : Nat) : Nat := if i ∈ l then 0 else f i
/-- A field without the numbers of a mask. -/
def outF (f : Nat → Nat) (m i : Nat) : Nat := if m.testBit i = true then 0 else f i
theorem strike_bits {f : Nat → Nat} {m i : Nat} (h : i < 64) : strike f (bitsL m) i = outF f m i := by
  simp [strike, outF, mem_bitsL, h]

/-- Three blocks, one behind the other. -/
theorem three_blocks (f : Nat → Nat) (m : Nat) (t u v : TypeId) (w : World) : ∃ W, ((w.alloc (.cells (Fld f) t)).alloc (.cells (Fld zf) u)).alloc (.cells #[.int .u64 m] v) = W ∧ W.heap.size = w.heap.size + 3 ∧
    RowAt W w.heap.size f ∧ RowAt W (w.heap.size + 1) zf ∧ W.cell? ⟨w.heap.size + 1 + 1, 0, none⟩ = some (.int .u64 m) ∧ Below w.heap.size w W := by
  obtain ⟨W1, hW1⟩ : ∃ W1, w.alloc (.cells (Fld f) t) = W1 := ⟨_, rfl⟩
  obtain ⟨W2, hW2⟩ : ∃ W2, W1.alloc (.cells (Fld zf) u) = W2 := ⟨_, rfl⟩
  have z1 : W1.heap.size = w.heap.size + 1 := by rw [← hW1]; simp
  have z2 : W2.heap.size = w.heap.size + 1 + 1 := by rw [← hW2]; simp [z1]
  have b1 : Below w.heap.size w W1 := by rw [← hW1]; exact (Below.refl _ _).alloc (Nat.le_refl _) _
  have b2 : Below w.heap.size w W2 := by rw [← hW2]; exact b1.alloc (by omega) _
  have r1 : RowAt W1 w.heap.size f := by
    rw [← hW1]
    exact ⟨rangeAt_row (heap_alloc_last w _), there_row (heap_alloc_last w _) (Fld_size f)⟩
  have r2 : RowAt W2 (w.heap.size + 1) zf := by
    rw [← hW2, ← z1]
    exact ⟨rangeAt_row (heap_alloc_last W1 _), there_row (heap_alloc_last W1 _) (Fld_size zf)⟩
  have e12 : Below W1.heap.size W1 W2 := by rw [← hW2]; exact (Below.refl _ _).alloc (Nat.le_refl _) _
  have e23 : Below W2.heap.size W2 (W2.alloc (.cells #[.int .u64 m] v)) := (Below.refl _ _).alloc (Nat.le_refl _) _
  rw [hW1, hW2]
  refine ⟨_, rfl, by simp [z2], (r1.below e12 (by omega)).below e23 (by omega), r2.below e23 (by omega), ?_, b2.alloc (by omega) _⟩
  have := cell_of_row (W2.alloc (.cells #[.int .u64 m] v)) W2.heap.size 0 _ _ _ (heap_alloc_last W2 _)
  rw [z2] at this
  exact this

theorem heap_setCells_other {b k : Nat} (vs : List Value) (h : k ≠ b) : ∀ {o : Nat} {W : World}, (W.setCells b o vs).heap[k]? = W.heap[k]? := by
  induction vs with
  | nil => intro o W; rfl
  | cons v r ih => intro o W; rw [World.setCells, ih, heap_setCell_other _ _ _ _ h]
theorem range_put {W : World} {D b o : Nat} {cs : List Value} {x : Obj} (hD : W.heap[D]? = some (.deferred (some []))) (h : W.rangeAt b o cs) : (W.putObj D x).rangeAt b o cs :=
  fun j v hv => cell_kept (h j v hv) (grownBy_putObj' _ D x) (fun r e => by cases e; exact ⟨_, hD, rfl⟩)

set_option maxRecDepth 100000 in
set_option maxHeartbeats 4000000 in
theorem outside_any (f : Nat → Nat) (m : Nat) (hm : m < 18446744073709551616) (w : World) (hT : TabAt w) (hg : 0 < w.heap.size) :
    Calls Tryd.prog 91 #[.agg (Fld f), .int .u64 m] w fun e w' => e = .returned (.agg (Fld (outF f m))) ∧ Below w.heap.size w w' := by
  refine (callsIn_wide (n := 6)).1 (callsIn_of_wp_marks Tryd.func91 rfl trivial ?_ rfl)
  simp only [Tryd.ntmps91, List.size_toArray, List.length_cons, List.length_nil, Nat.reduceAdd, Nat.reduceSub, Array.replicate_succ, Array.replicate_zero, List.push_toArray, List.append_toArray, List.nil_append, List.cons_append]
  refine wpIn_wide.2 ?_
  go_wp2_with (go_at_call 58; refine (bitsIn_any m _).mono ?_; rintro e w' ⟨rfl, rfl⟩)
  refine wp_world (w' := ((w.alloc (.cells (Fld f) 30)).alloc (.cells (Fld zf) 30)).alloc (.cells #[.int .u64 m] 25)) rfl ?_
  obtain ⟨W0, hW0, hz, r1, r2, hc, hB0⟩ := three_blocks f m 30 30 25 w
  rw [hW0]
  clear hW0
  have hT0 := hT.below hB0 hg
  refine (wpIn_wide (n := 6)).1 (wpIn_rangeFunc_ownF rfl (by omega) (gf := 92) (lb := #[.pointer (some ⟨w.heap.size + 1 + 1, 0, none⟩)]) rfl trivial (enters_of Tryd.func92 (by kernel_rfl) rfl)
    (bits_stops m hm 5 (by omega) (w.heap.size + 1 + 1) w.heap.size W0 (by omega) hg (by omega) hc hT0) belowK_t (belowK_b (by omega)) (Below.refl _ _) (fun _ => rfl)
    (fun pre W => (RowAt W w.heap.size (strike f (pre.map (·.1))) ∧ RowAt W (w.heap.size + 1) zf) ∧ Below w.heap.size w W)
    (fun _ _ _ => False)
    (OwnFrom.and (Own.from (fun s A B row hs hg hr => ⟨hs.1.kept hg hr, hs.2.kept hg hr⟩) _) (ownFrom_below (Nat.le_refl _) (by omega)))
    (fun _ _ _ _ _ hs _ _ => hs)
    ⟨⟨r1.congr (fun i _ => by simp [strike]), r2⟩, hB0⟩
    (fun x => { tmps := #[.agg (Fld f), .int .u64 m, .pointer (some ⟨w.heap.size, 0, none⟩), undef, .pointer (some ⟨w.heap.size + 1, 0, none⟩), .int .i64 x.1, .int .u64 m, .func (.func 92) #[] #[.pointer (some ⟨w.heap.size + 1 + 1, 0, none⟩)], .int .i64 x.1, undef, undef, undef], defers := [] })
    ?assign ?body ?done ?stop)
  case assign =>
    intro l x W K hK
    dsimp only [encB]
    gi_wp2
    exact hK
  case body =>
    rintro l pre x W ⟨⟨h1, h2⟩, hB⟩ _
    have hx64 : x.1 < 64 := (mem_bitsL.1 x.2).1
    have c1 := h1.cell x.1 hx64
    have f1 := h1.free x.1 hx64
    gi_wp2
    refine ⟨KeepsOthers.setCell _ _ _, (Below.refl _ _).setCell (p := ⟨w.heap.size, x.1, none⟩) (Nat.le_refl _) _, ⟨(h1.put x.1 0 hx64).congr (fun i hi => ?_), h2.far _ _ (by omega)⟩, hB.setCell (p := ⟨w.heap.size, x.1, none⟩) (Nat.le_refl _) _⟩
    by_cases e : i = x.1
    · simp [strike, e]
    · simp only [e, if_false, strike, List.map_append, List.map_cons, List.map_nil, List.mem_append, List.mem_singleton, or_false]
  case done =>
    rintro D ys W hD hys ⟨⟨h1, h2⟩, hB⟩ hK
    have h1' : RowAt W w.heap.size (outF f m) := h1.congr (fun i hi => by rw [hys]; exact strike_bits hi)
    have ht : W.there (w.heap.size + 1) 0 (Fld (outF f m)).size := by rw [Fld_size]; exact h2.there
    have hr := h1'.range
    clear h1
    go_wp2_with (first | (refine wpList_load_mid rfl 30 _ rfl _ 0 rfl (Fld (outF f m)).toList _ hr Tryd.underlying30 rfl (by rw [Fld_length]; exact infoField) ?_) | (refine wpList_store_mid rfl 30 _ _ rfl _ 0 (Fld (outF f m)) rfl rfl ht (by rw [Fld_size]; exact infoField) (Fld_one _) ?_))
    have hK1 : (W.setCells (w.heap.size + 1) 0 (Fld (outF f m)).toList).heap[D]? = some (.deferred (some [])) := by rw [heap_setCells_other _ (by omega)]; exact hK
    have hr1 := World.rangeAt_setCells_same W (w.heap.size + 1) 0 (Fld (outF f m)).toList (by rw [Fld_length]; exact h2.there)
    have hb1 := below_setCells (w.heap.size + 1) (by omega) (Fld (outF f m)).toList 0 W hB
    refine ⟨by simp, .inl ⟨_, _, rfl, run_takeDeferred hK1, ?_⟩⟩
    refine ⟨_, results_cell_mid rfl _ _ _ 0 (Fld (outF f m)).toList _ rfl (range_put hK1 hr1) Tryd.underlying30 rfl (by rw [Fld_length]; exact infoField), by rw [Array.toArray_toList], hb1.trans (belowK_b (w := w) (Nat.le_refl _) _ D _ _ (by omega) hK1 rfl rfl)⟩
  case stop =>
    rintro D c pre W _ _ h _
    exact h.elim
end Go.Proofs.YtcfkkceidlpdkaaDoor
