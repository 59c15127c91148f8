/- BalancesOf: the program's. Condition: the table of math/bits is laid. -/
import Derived.Test.YtcfkkceidlpdkaaDoorBalancesOf
import Derived.Test.YtcfkkceidlpdkaaDoorHeadI
namespace Go.Proofs.YtcfkkceidlpdkaaDoor
open Go.RowKit Go.Shelf
attribute [local go_sem] Oper.semAt_some run_store_float
set_option linter.unusedSimpArgs false
set_option linter.unusedVariables false

/-- A field at the numbers of a list. -/
def fillF (f : Nat → Nat) (l : List Nat) (i : Nat) : Nat := if i ∈ l then f i else 0
theorem fillF_nil (f : Nat → Nat) : ∀ i, i < 64 → zf i = fillF f [] i := fun i _ => by simp [fillF, zf]
theorem fillF_put (f : Nat → Nat) (l : List Nat) (k x : Nat) (h : x = f k) : ∀ i, i < 64 → (if i = k then x else fillF f l i) = fillF f (l ++ [k]) i := fun i _ => by
  unfold fillF
  by_cases e : i = k
  · subst e; simp [h]
  · simp [e]
theorem fillF_bal (G : Gd) : ∀ i, i < 64 → fillF (balF G) (bitsL (cellsN G)) i = balF G i := fun i h => by
  unfold fillF
  have e : i ∈ bitsL (cellsN G) ↔ isB G i = true := by rw [mem_bitsL, cellsN_testBit]; simp [h]
  cases hi : isB G i
  · rw [if_neg (by rw [e, hi]; simp)]; simp [balF, hi]
  · rw [if_pos (by rw [e, hi])]
theorem allFin_yes {G : Gd} (h : ∀ i ∈ bitsL (cellsN G), finO (balO G i) = true) : allFin G = true := all_yes fun i hi => by
  cases hb : isB G i
  · rfl
  · rw [h i (mem_bitsL.2 ⟨hi, by rw [cellsN_testBit, hb]; simp [hi]⟩)]; rfl

theorem results_fld_int {P : Program} {fn : Func} {p q : Tmp} {ty ti : TypeId} {D Di : TypeDesc} (h : fn.results = #[.cell p ty, .cell q ti]) (tmps : Array Value) (w : World) (b c : Nat) (f : Nat → Nat) (n : Int)
    (hp : tmps.getD p undef = .pointer (some ⟨b, 0, none⟩)) (hq : tmps.getD q undef = .pointer (some ⟨c, 0, none⟩)) (hc : w.rangeAt b 0 (Fld f).toList) (hn : w.cell? ⟨c, 0, none⟩ = some (.int .i64 n)) (hu : P.underlying ty = some D) (hd : D.isRow = true) (hui : P.underlying ti = some Di) (hdi : Di.isRow = false) (hi : (P.info? ty).map (·.size) = some 64) :
    (results fn tmps).run P w = .ok (.tuple #[.agg (Fld f), .int .i64 n]) w := by
  have hp' : tmps[p]?.getD undef = .pointer (some ⟨b, 0, none⟩) := by simpa using hp
  have hq' : tmps[q]?.getD undef = .pointer (some ⟨c, 0, none⟩) := by simpa using hq
  have := run_loadVar_mid (P := P) w b 0 ty (Fld f).toList D hc hu hd (by rw [Fld_length]; exact hi)
  have hagg : (isAgg ti).run P w = .ok false w := by
    unfold isAgg
    rw [Sem.run_bind, run_underlying hui w]
    cases Di <;> simp_all
  have h2 : (loadVar ti ⟨c, 0, none⟩).run P w = .ok (.int .i64 n) w := by
    unfold loadVar
    go_simp
  simp [results, h, hp', hq', asAddr, this, h2, Fld]
theorem CK.row {A B : World} (h : CK A B) {b : Nat} {f : Nat → Nat} (g : RowAt A b f) : RowAt B b f := ⟨h.range g.range, h.there g.there⟩

/-- A ground, a field and a number are boxed. -/
theorem gri_box (G : Gd) (f : Nat → Nat) (n : Int) (t u v : TypeId) (w : World) : ∃ W, ((w.alloc (.cells (Grd G) t)).alloc (.cells (Fld f) u)).alloc (.cells #[.int .i64 n] v) = W ∧ W.heap.size = w.heap.size + 1 + 1 + 1 ∧ GBox W w.heap.size G ∧ RowAt W (w.heap.size + 1) f ∧ W.cell? ⟨w.heap.size + 1 + 1, 0, none⟩ = some (.int .i64 n) ∧ W.frozen? ⟨w.heap.size + 1 + 1, 0, none⟩ = false ∧ Below w.heap.size w W := by
  obtain ⟨W1, h1, z1, g1, q1, b1⟩ := gr_box G f t u w
  have b2 : Below W1.heap.size W1 (W1.alloc (.cells #[.int .i64 n] v)) := (Below.refl _ _).alloc (Nat.le_refl _) _
  rw [h1]
  refine ⟨_, rfl, by simp [z1], g1.below b2 (by omega), q1.below b2 (by omega), ?_, ?_, b1.trans (b2.mono (by omega))⟩
  · rw [← z1]; exact cell_of_row _ _ 0 _ _ _ (heap_alloc_last W1 _)
  · rw [← z1]; have := (there_row (n := 1) (heap_alloc_last W1 (.cells #[.int .i64 n] v)) rfl 0 (by omega)).2; rwa [Nat.zero_add] at this

theorem cell_farS {b c x : Nat} (hc : c ≠ b) : ∀ (vs : List Value) (o : Nat) (W : World), (W.setCells b o vs).cell? ⟨c, x, none⟩ = W.cell? ⟨c, x, none⟩
  | [], _, _ => rfl
  | v :: vs, o, W => (cell_farS hc vs (o + 1) (W.setCell ⟨b, o, none⟩ v)).trans (cell_other (fun e => hc (by injection e; rename_i e _ _; exact e.symm)))
theorem frozenS {b : Nat} (p : Addr) : ∀ (vs : List Value) (o : Nat) (W : World), (W.setCells b o vs).frozen? p = W.frozen? p
  | [], _, _ => rfl
  | v :: vs, o, W => (frozenS p vs (o + 1) (W.setCell ⟨b, o, none⟩ v)).trans (World.frozen?_setCell _ _ _ _)
theorem keepsS {b : Nat} : ∀ (vs : List Value) (o : Nat) (W : World), KeepsOthers W (W.setCells b o vs)
  | [], _, W => KeepsOthers.refl W
  | v :: vs, o, W => (KeepsOthers.setCell W ⟨b, o, none⟩ v).trans (keepsS vs (o + 1) (W.setCell ⟨b, o, none⟩ v))
/-- A field is stored where a field lies; another one and a number lie on. -/
theorem stored_row {W : World} {b c : Nat} {f g : Nat → Nat} (h : RowAt W b f) (hc : c ≠ b) : ∃ X, W.setCells b 0 (Fld g).toList = X ∧ RowAt X b g ∧ (∀ v, W.cell? ⟨c, 0, none⟩ = some v → X.cell? ⟨c, 0, none⟩ = some v) ∧ X.frozen? ⟨c, 0, none⟩ = W.frozen? ⟨c, 0, none⟩ ∧ KeepsOthers W X ∧ X.heap.size = W.heap.size ∧ (∀ n w, n ≤ b → Below n w W → Below n w X) ∧ ∀ (D : Nat) (o : Obj), D ≠ b → W.heap[D]? = some o → X.heap[D]? = some o :=
  ⟨_, rfl, h.store, fun v hv => (cell_farS hc _ _ _).trans hv, frozenS _ _ _ _, keepsS _ _ _, size_setCells _ _ _ _, fun n w hn hb => below_setCells _ hn _ _ _ hb, fun D o hD ho => (heap_setCells_other _ hD).trans ho⟩


set_option maxRecDepth 100000 in
set_option maxHeartbeats 1000000 in
theorem implBalances_bad (G : Gd) (w : World) (hG : GdOk G) (hT : TabAt w) (hv : validB G = false) :
    Calls Tryd.prog 22 #[.agg (Grd G)] w fun e w' => e = .returned (FN zf 1) ∧ Below w.heap.size w w' := by
  have hz := (zero_of_info zeroField).1
  go_enter Tryd.func22, Tryd.ntmps22
  go_upto_region 1 with (fail)
  obtain ⟨W, hW, hs, g1, q1, c1, f1, hB⟩ := gri_box G zf 0 32 30 2 w
  rw [hW]
  clear hW
  have r1 := g1.range
  have hl : w.heap.size + 1 < W.heap.size := by omega
  have hl2 : w.heap.size + 1 + 1 < W.heap.size := by omega
  have G1 := Lib.hid g1
  have Q1 := Lib.hid q1
  have HB := Lib.hid hB
  have HT := Lib.hid (hT.below hB (tab_lt hT))
  have Hv := Lib.hid hv
  have C1 := Lib.hid c1
  have F1 := Lib.hid f1
  clear hs g1 q1 hB hT hv c1 f1
  go_upto_region 2 with (first | (refine wpList_load_mid rfl 32 _ rfl w.heap.size 0 rfl (GrdL G) _ r1 Tryd.underlying32 rfl (by rw [GrdL_length]; exact infoGround) ?_) | (go_at_call 57; have hc := (validGround_any G W hG HT.out (tab_lt HT.out)); rw [Hv.out] at hc; refine hc.mono ?_; clear hc; rintro e V ⟨rfl, hb⟩))
  have q2 := Q1.out.below hb hl
  have t2 := q2.there
  have c2 := kc C1.out hl2 _ hb
  have f2 : V.frozen? ⟨w.heap.size + 1 + 1, 0, none⟩ = false := (hb.frozen (p := ⟨w.heap.size + 1 + 1, 0, none⟩) hl2).trans F1.out
  obtain ⟨X, hX, x1, x2, x3, x4, x5, x6, x7⟩ := stored_row (g := zf) q2 (c := w.heap.size + 1 + 1) (by omega)
  have cX := x2 _ c2
  have fX := x3.trans f2
  have BX := Lib.hid (x6 w.heap.size w (by omega) (HB.out.trans (hb.mono (by omega))))
  have X1 := Lib.hid x1
  have HX := Lib.hid hX
  clear q2 c2 f2 x1 x2 x3 x4 x5 x6 x7 hX hb
  go_wp2_with (first | (refine wpList_store_mid rfl 30 _ _ rfl _ 0 (Fld (zf)) rfl rfl (by rw [Fld_size]; with_reducible exact t2) (by rw [Fld_size]; exact infoField) (Fld_one _) ?_); rw [HX.out])
  refine bodyPost_ret (results_fld_int rfl _ _ _ _ _ _ rfl rfl (X1.out.far _ _ (by omega)).range (World.cell?_setCell_same' _ _ _ (by rw [cX]; rfl)) Tryd.underlying30 rfl Tryd.underlying2 rfl infoField) rfl ⟨rfl, BX.out.setCell (by simp; omega) _⟩
end Go.Proofs.YtcfkkceidlpdkaaDoor
