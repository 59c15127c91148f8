/- A ground that the model draws: what it is, and that it is drawn. No condition of its own. -/
import Derived.Test.YtjhaonfdapldcaaDoorPick
import Derived.Test.YtjhaonfdapldcaaDoorPth
namespace Go.Proofs.YtjhaonfdapldcaaDoor
open Go Go.RowKit Ieee
set_option linter.unusedSimpArgs false
set_option linter.unusedVariables false
attribute [local go_sem] run_store_float Oper.semAt_some

theorem wpList_floatG {P : Program} {ops : Array Oper} {rest : List Oper} {o : Oper} {a : Act} {w : World} {Q : Exit → Act → World → Prop} (hg : o.guard = none) (op : BinOp) (t t' : TypeId) (x y : Operand)
    (ho : o.op = .binOp op t x y t') (hop : arith op = true) (k : FloatKind) (u v r : Nat) (hx : a.eval x = .float k u) (hy : a.eval y = .float k v) (hr : fop k op (num k u) (num k v) = some r)
    (h : wpList P ops Q rest (a.put o.dst (.float k r)) w) : wpList P ops Q (o :: rest) a w :=
  wpList_plain hg fun K hK => by
    rw [fop_num] at hr
    have hrun := run_float_arith (P := P) w op t k u v r hr
    have hq : (eqGuard op t x y (.float k u) (.float k v)).run P w = .ok () w := by
      cases op <;> first | (simp [arith] at hop; done) | simp [eqGuard]
    unfold Oper.wp execOp
    simp only [ho]
    simp only [hx, hy, Sem.run_bind, hq, Result.andThen, hrun]
    exact hK _ _ h
/-- a over d, in single precision. -/
def qw (a : Int) (d : Nat) : Nat := (fop .f32 .quo (num .f32 (floatOfInt .f32 a)) (num .f32 d)).getD 0
/-- A few quarters; a conductance; a head. -/
def fewT (i : Nat) : Nat := qw ((i : Nat) - 32 : Int) 1082130432
def conT (i : Nat) : Nat := qw (1 + (i : Nat) : Int) 1082130432
def hedT (i : Nat) : Nat := (fop .f32 .add (num .f32 1092616192) (num .f32 (fewT i))).getD 0
theorem few_ok : ∀ i, i < 65 → fop .f32 .quo (num .f32 (floatOfInt .f32 ((i : Nat) - 32 : Int))) (num .f32 1082130432) = some (fewT i) := by decide +kernel
theorem con_ok : ∀ i, i < 12 → fop .f32 .quo (num .f32 (floatOfInt .f32 (1 + (i : Nat) : Int))) (num .f32 1082130432) = some (conT i) := by decide +kernel
theorem hed_ok : ∀ i, i < 65 → fop .f32 .add (num .f32 1092616192) (num .f32 (fewT i)) = some (hedT i) := by decide +kernel
/-- What is drawn for a cell. -/
def conOk (c : Nat) : Prop := c = 0 ∨ ∃ n, n < 12 ∧ c = conT n
def fewOk (c : Nat) : Prop := c = 0 ∨ ∃ n, n < 65 ∧ c = fewT n
def hedOk (c : Nat) : Prop := ∃ n, n < 65 ∧ c = hedT n
structure DrwTo (G : Gd) (a b k : Nat) (L : List Nat) : Prop where
  wide : G.wide = 2 + (a : Int)
  high : G.high = 2 + (b : Int)
  c : ∀ i, i < k → isB G i = true → conOk (G.c i)
  g : ∀ i, i < k → isB G i = true → fewOk (G.g i)
  h : ∀ i, i < k → isB G i = true → hedOk (G.h i)
  no : ∀ i, (k ≤ i ∨ isB G i = false) → G.c i = 0 ∧ G.g i = 0 ∧ G.h i = 0
  x : G.x = ((maskL L : Nat) : Int)
  l : ∀ j ∈ L, j < k ∧ j < 64 ∧ isB G j = true
/-- A ground that the model may draw. -/
def Drw (G : Gd) : Prop := ∃ a b L, a < 3 ∧ b < 3 ∧ DrwTo G a b 64 L ∧ L ≠ []
theorem con_lt : ∀ i, i < 12 → conT i < 4294967296 := by decide +kernel
theorem few_lt : ∀ i, i < 65 → fewT i < 4294967296 := by decide +kernel
theorem conOk.lt {c : Nat} (h : conOk c) : c < 4294967296 := by
  rcases h with rfl | ⟨n, hn, rfl⟩
  · decide
  · exact con_lt n hn
theorem fewOk.lt {c : Nat} (h : fewOk c) : c < 4294967296 := by
  rcases h with rfl | ⟨n, hn, rfl⟩
  · decide
  · exact few_lt n hn
theorem DrwTo.ok {G : Gd} {a b k : Nat} {L : List Nat} (ha : a < 3) (hb : b < 3) (h : DrwTo G a b k L) : GdOk G := by
  have hx := maskL_lt (l := L) fun j hj => (h.l j hj).2.1
  refine ⟨?_, ?_, ?_, fun i hi => ?_, fun i hi => ?_, fun _ _ => trivial⟩
  · rw [h.wide]; show -128 ≤ _ ∧ _ ≤ (127 : Int); omega
  · rw [h.high]; show -128 ≤ _ ∧ _ ≤ (127 : Int); omega
  · rw [h.x]; show (0 : Int) ≤ _ ∧ _ ≤ (18446744073709551615 : Int); omega
  · by_cases e : k ≤ i ∨ isB G i = false
    · rw [(h.no i e).1]; show 0 < 4294967296; decide
    · exact (h.c i (by omega) (by cases hh : isB G i <;> simp [hh] at e ⊢)).lt
  · by_cases e : k ≤ i ∨ isB G i = false
    · rw [(h.no i e).2.1]; show 0 < 4294967296; decide
    · exact (h.g i (by omega) (by cases hh : isB G i <;> simp [hh] at e ⊢)).lt
theorem DrwTo.skip {G : Gd} {a b k : Nat} {L : List Nat} (h : DrwTo G a b k L) (hi : isB G k = false) : DrwTo G a b (k + 1) L := by
  have hne : ∀ i, i < k + 1 → isB G i = true → i < k := fun i h1 h2 => by
    rcases Nat.lt_or_ge i k with e | e
    · exact e
    · obtain rfl : i = k := by omega
      rw [hi] at h2; cases h2
  refine ⟨h.wide, h.high, fun i h1 h2 => h.c i (hne i h1 h2) h2, fun i h1 h2 => h.g i (hne i h1 h2) h2, fun i h1 h2 => h.h i (hne i h1 h2) h2, fun i h1 => h.no i ?_, h.x, fun j hj => ⟨by have := (h.l j hj).1; omega, (h.l j hj).2⟩⟩
  rcases h1 with e | e
  · exact .inl (by omega)
  · exact .inr e
theorem DrwTo.next {G H : Gd} {a b k : Nat} {L M : List Nat} (h : DrwTo G a b k L) (hk : k < 64) (hi : isB G k = true) (hw : H.wide = G.wide) (hh : H.high = G.high)
    (hc : ∀ i, i ≠ k → H.c i = G.c i) (hg : ∀ i, i ≠ k → H.g i = G.g i) (hd : ∀ i, i ≠ k → H.h i = G.h i) (oc : conOk (H.c k)) (og : fewOk (H.g k)) (od : hedOk (H.h k))
    (hx : H.x = ((maskL M : Nat) : Int)) (hM : ∀ j ∈ M, j = k ∨ j ∈ L) : DrwTo H a b (k + 1) M := by
  have hB : ∀ i, isB H i = isB G i := fun i => by unfold isB; rw [hw, hh]
  have hne : ∀ i, i < k + 1 → i ≠ k → i < k := fun i h1 h2 => by omega
  refine ⟨hw.trans h.wide, hh.trans h.high, fun i h1 h2 => ?_, fun i h1 h2 => ?_, fun i h1 h2 => ?_, fun i h1 => ?_, hx, fun j hj => ?_⟩
  · by_cases e : i = k
    · rw [e]; exact oc
    · rw [hc i e]; exact h.c i (hne i h1 e) (by rw [← hB]; exact h2)
  · by_cases e : i = k
    · rw [e]; exact og
    · rw [hg i e]; exact h.g i (hne i h1 e) (by rw [← hB]; exact h2)
  · by_cases e : i = k
    · rw [e]; exact od
    · rw [hd i e]; exact h.h i (hne i h1 e) (by rw [← hB]; exact h2)
  · have e : i ≠ k := by
      rintro rfl
      rcases h1 with e | e
      · omega
      · rw [hB, hi] at e; cases e
    rw [hc i e, hg i e, hd i e]
    refine h.no i ?_
    rcases h1 with e2 | e2
    · exact .inl (by omega)
    · exact .inr (by rw [← hB]; exact e2)
  · rcases hM j hj with rfl | e
    · exact ⟨by omega, hk, by rw [hB]; exact hi⟩
    · have := h.l j e
      exact ⟨by omega, this.2.1, by rw [hB]; exact this.2.2⟩
theorem upd_at (f : Nat → Nat) (k b : Nat) : upd f k b k = b := if_pos rfl
theorem upd_P {P : Nat → Prop} {f : Nat → Nat} {k v : Nat} (h : P v) : P (upd f k v k) := by rw [upd_at]; exact h
theorem upd_ne {f : Nat → Nat} {k b i : Nat} (h : i ≠ k) : upd f k b i = f i := if_neg h
/-- Nothing but block s has turned among those ahead of B. -/
def Fr (s B : Nat) (w w' : World) : Prop := Below s w w' ∧ ∀ j, j ≠ s → j < B → w'.heap[j]? = w.heap[j]?
theorem Fr.refl (s B : Nat) (w : World) : Fr s B w w := ⟨Below.refl _ _, fun _ _ _ => rfl⟩
theorem Fr.pick {s B : Nat} {w u v : World} (h : Fr s B w u) (g : Only s u v) : Fr s B w v := ⟨h.1.trans g.1, fun j h1 h2 => (g.2 j h1).trans (h.2 j h1 h2)⟩
theorem Fr.put {s B : Nat} {w u : World} (h : Fr s B w u) (hs : s < B) (o : Nat) (x : Value) : Fr s B w (u.setCell ⟨B, o, none⟩ x) :=
  ⟨h.1.setCell (p := ⟨B, o, none⟩) (Nat.le_of_lt hs) x, fun j h1 h2 => (heap_setCell_other _ _ _ _ (show j ≠ B by omega)).trans (h.2 j h1 h2)⟩
theorem cell_eqG {w w' : World} {b : Nat} (h : w'.heap[b]? = w.heap[b]?) (o : Nat) : w'.cell? ⟨b, o, none⟩ = w.cell? ⟨b, o, none⟩ := by
  simp only [World.cell?, h]
theorem frz_eqP {w w' : World} {b : Nat} (h : w'.heap[b]? = w.heap[b]?) (o : Nat) : w'.frozen? ⟨b, o, none⟩ = w.frozen? ⟨b, o, none⟩ := by
  simp only [World.frozen?, h]
theorem GBox.same {w w' : World} {b : Nat} {G : Gd} (g : GBox w b G) (h : w'.heap[b]? = w.heap[b]?) : GBox w' b G :=
  ⟨⟨(cell_eqG h _).trans g.at'.wide, (cell_eqG h _).trans g.at'.high, fun j v hv => (cell_eqG h _).trans (g.at'.c j v hv), fun j v hv => (cell_eqG h _).trans (g.at'.g j v hv), fun j v hv => (cell_eqG h _).trans (g.at'.h j v hv), (cell_eqG h _).trans g.at'.x⟩,
    fun j hj => by have := g.there j hj; rw [cell_eqG h, frz_eqP h]; exact this⟩
theorem GBox.pick {w w' : World} {s b : Nat} {G : Gd} (g : GBox w b G) (h : Only s w w') (hs : s < b) : GBox w' b G := g.same (h.2 b (by omega))
theorem SrcAt.keepG {w w' : World} {b k : Nat} (h : SrcAt w b k) (hB : Below (b + 1) w w') : SrcAt w' b k := by
  obtain ⟨p, n, c, a, s, hb, hn, ha, h0, h1, hx⟩ := h
  exact ⟨p, n, c, a, s, (hB.block b (Nat.lt_succ_self _)).trans hb, hn, ha, h0, h1, hx.below (hB.mono (Nat.le_succ _))⟩
theorem SrcAt.put {w : World} {s k B : Nat} (h : SrcAt w s k) (hs : s < B) (o : Nat) (x : Value) : SrcAt (w.setCell ⟨B, o, none⟩ x) s k := h.keepG ((Below.refl _ _).setCell (p := ⟨B, o, none⟩) (show s + 1 ≤ B by omega) x)
theorem grd_two (x y : Int) : ((Grd zG).setIfInBounds 0 (.int .i8 x)).setIfInBounds 1 (.int .i8 y) = Grd ⟨x, y, zf, zf, zf, 0⟩ := by
  unfold Grd GrdL zG
  simp
theorem results_aggG {P : Program} {fn : Func} {p : Tmp} {ty : TypeId} {D : TypeDesc} (h : fn.results = #[.cell p ty]) (tmps : Array Value) (w : World) (b : Nat) (cs : Array Value)
    (hp : tmps.getD p undef = .pointer (some ⟨b, 0, none⟩)) (hc : w.rangeAt b 0 cs.toList) (hu : P.underlying ty = some D) (hd : D.isRow = true) (hi : (P.info? ty).map (·.size) = some cs.toList.length) :
    (results fn tmps).run P w = .ok (.agg cs) w := by
  have hp' : tmps[p]?.getD undef = .pointer (some ⟨b, 0, none⟩) := by simpa using hp
  have := run_loadVar_mid (P := P) w b 0 ty cs.toList D hc hu hd hi
  simp [results, h, hp', asAddr, this]
theorem maskL_ne {L : List Nat} (h : L ≠ []) : maskL L ≠ 0 := by
  cases L with
  | nil => exact absurd rfl h
  | cons c l =>
    intro e
    have := maskL_bit c (c :: l)
    rw [e] at this
    simp at this
theorem DrwTo.start (a b : Nat) : DrwTo ⟨2 + (a : Int), 2 + (b : Int), zf, zf, zf, 0⟩ a b 0 [] :=
  ⟨rfl, rfl, fun i h => absurd h (Nat.not_lt_zero _), fun i h => absurd h (Nat.not_lt_zero _), fun i h => absurd h (Nat.not_lt_zero _), fun _ _ => ⟨rfl, rfl, rfl⟩, rfl, fun j h => by cases h⟩
theorem DrwTo.fix {G : Gd} {a b : Nat} (h : DrwTo G a b 64 []) : DrwTo ⟨G.wide, G.high, G.c, G.g, G.h, 1⟩ a b 64 [0] :=
  ⟨h.wide, h.high, h.c, h.g, h.h, h.no, by show (1 : Int) = ((maskL [0] : Nat) : Int); decide, fun j hj => by
    simp at hj; subst hj
    refine ⟨by omega, by omega, ?_⟩
    have h1 := h.wide
    have h2 := h.high
    unfold isB
    simp
    omega⟩
theorem BytesAt.atG {w V : World} {p : Option Addr} {n : Nat} (h : BytesAt w w.heap.size p n) (hB : Below w.heap.size w V) : BytesAt V V.heap.size p n := fun i hi => by
  obtain ⟨bb, oo, x, hp, hb, hc⟩ := (h.below hB) i hi
  exact ⟨bb, oo, x, hp, Nat.lt_of_lt_of_le hb hB.size, hc⟩

set_option maxRecDepth 100000 in
set_option maxHeartbeats 2000000 in
theorem l00FromG_any (p : Option Addr) (n c : Nat) (hn : n ≤ maxLen) (w : World) (h : BytesAt w w.heap.size p n) :
    Calls Tryd.prog 39 #[.slice p n c] w fun e w' => e = .returned (.pointer (some ⟨w.heap.size, 0, none⟩)) ∧ Below w.heap.size w w' ∧ w'.heap.size = w.heap.size + 1 ∧ SrcAt w' w.heap.size 0 := by
  have H := Lib.hid h
  clear h
  go_enter Tryd.func39, Tryd.ntmps39
  go_wp2
  go_ret
  have hB : Below w.heap.size w (w.alloc (.cells #[.slice p n c, .int .i64 0, .int .u64 0] 98)) := (Below.refl _ _).alloc (Nat.le_refl _) _
  exact ⟨rfl, hB, by simp, p, n, c, 0, 0, heap_alloc_last w _, hn, Nat.le_refl _, by omega, by omega, H.out.below hB⟩

set_option maxRecDepth 100000 in
set_option maxHeartbeats 2000000 in
theorem one_any (b k n : Nat) (hk : k < 1073741824) (hn : 1 ≤ n) (hn2 : n < 4294967296) (w : World) (h : SrcAt w b k) :
    Calls Tryd.prog 64 #[.pointer (some ⟨b, 0, none⟩), .int .i64 (n : Int)] w fun e w' => (∃ r : Bool, e = .returned (.bool r)) ∧ Only b w w' ∧ w'.heap.size = w.heap.size ∧ SrcAt w' b (k + 2) := by
  have T0 := pick_any b k n hk hn hn2 w h
  clear h
  go_enter Tryd.func64, Tryd.ntmps64
  go_wp2_with (go_at_call 40; refine T0.mono ?_; rintro e V ⟨⟨x, hx, rfl⟩, hb, hz, hs⟩; have S2 := Lib.hid hs; have Z := Lib.hid hz; have B2 := Lib.hid hb; clear hb hz hs T0)
  go_ret
  exact ⟨⟨_, rfl⟩, B2.out, Z.out, S2.out⟩

set_option maxRecDepth 100000 in
set_option maxHeartbeats 2000000 in
theorem few_any (b k : Nat) (hk : k < 1073741824) (w : World) (h : SrcAt w b k) :
    Calls Tryd.prog 65 #[.pointer (some ⟨b, 0, none⟩)] w fun e w' => (∃ i : Nat, i < 65 ∧ e = .returned (.float .f32 (fewT i))) ∧ Only b w w' ∧ w'.heap.size = w.heap.size ∧ SrcAt w' b (k + 2) := by
  have T0 := pick_any b k 65 hk (by omega) (by omega) w h
  clear h
  go_enter Tryd.func65, Tryd.ntmps65
  go_wp2_with (first
    | (go_at_call 40; refine T0.mono ?_; rintro e V ⟨⟨x, hx, rfl⟩, hb, hz, hs⟩; have S2 := Lib.hid hs; have Z := Lib.hid hz; have B2 := Lib.hid hb; have hf1 := few_ok x hx; have F1 := Lib.hid hf1; clear hb hz hs hf1 T0)
    | (refine wpList_floatG rfl _ _ _ _ _ rfl rfl .f32 _ _ _ rfl rfl F1.out ?_))
  go_ret
  exact ⟨⟨x, hx, rfl⟩, B2.out, Z.out, S2.out⟩

set_option maxRecDepth 100000 in
set_option maxHeartbeats 2000000 in
theorem l01Drawn_any (s : Nat) (w : World) (h : SrcAt w s 0) :
    Calls Tryd.prog 38 #[.pointer (some ⟨s, 0, none⟩)] w fun e w' => (∃ G, e = .returned (.agg (Grd G)) ∧ Drw G) ∧ Fr s w.heap.size w w' ∧ SrcAt w' s 1000 := by
  have hsl : s < w.heap.size := by
    obtain ⟨p, n, c, a, x, hb, _⟩ := h
    exact (Array.getElem?_eq_some_iff.1 hb).1
  have hz := (zero_of_info zeroGround).1
  go_enter Tryd.func38, Tryd.ntmps38
  go_upto_region 1 with (fail)
  obtain ⟨W, hW, zW, gW, bW⟩ := gbox1 zG 32 w
  rw [hW]
  obtain ⟨B, hBB⟩ : ∃ B, W.heap.size = B := ⟨_, rfl⟩
  have SW := h.keepG (bW.mono (by omega))
  have HS : s < B := by omega
  have FW := Lib.hid (show Fr s w.heap.size w W from ⟨bW.mono (by omega), fun j h1 h2 => bW.block j h2⟩)
  have T1 := Lib.hid (pick_any s 0 3 (by omega) (by omega) (by omega) W SW)
  have GR := Lib.hid gW
  have ZW := Lib.hid zW
  clear hW h SW gW bW zW
  have t1 : True := trivial
  go_upto_region 2 with (first | (have _t := t1; go_at_call 40; refine T1.out.mono ?_; rintro e V1 ⟨⟨a, ha, rfl⟩, hb1, hz1, hs1⟩; have B1 := Lib.hid hb1; have Z1 := Lib.hid hz1; have S1 := Lib.hid hs1; have a1 : (a : Int) ≤ 3 := (by omega); clear hb1 hz1 hs1 T1 t1) | (go_at_call 40; refine (pick_any s 2 3 (by omega) (by omega) (by omega) _ S1.out).mono ?_; rintro e V2 ⟨⟨b, hb0, rfl⟩, hb1, hz1, hs1⟩; have B2 := Lib.hid (B1.out.trans hb1); have Z2 := Lib.hid (hz1.trans Z1.out); have S2 := Lib.hid hs1; have b1 : (b : Int) ≤ 3 := (by omega); clear hb1 hz1 hs1 B1 Z1 S1) | (refine st_stage 32 rfl ?_; refine wpList_store_mid rfl 32 _ _ rfl V2.heap.size 0 (Grd ⟨2 + (a : Int), 2 + (b : Int), zf, zf, zf, 0⟩) rfl (congrArg Value.agg (grd_two _ _)) (by rw [Grd_size]; exact there_row (heap_alloc_last V2 _) (Grd_size zG)) (by rw [Grd_size]; exact infoGround) (Grd_one _) ?_))
  obtain ⟨U, hU, zU, gU, bU⟩ := stored_box ⟨2 + (a : Int), 2 + (b : Int), zf, zf, zf, 0⟩ 32 V2
  rw [hU]
  have e2 : V2.heap.size = B := Z2.out.trans hBB
  rw [e2] at gU bU zU ⊢
  have GB := Lib.hid gU
  have SR := Lib.hid (show SrcAt U s (4 + 12 * 0) from S2.out.keepG (bU.mono (by omega)))
  have FR := Lib.hid (show Fr s B W U from ⟨B2.out.1.trans (bU.mono (by omega)), fun j h1 h2 => (bU.block j (by omega)).trans (B2.out.2 j h1)⟩)
  have HBR := Lib.hid (show B = w.heap.size + 1 by rw [← hBB, ZW.out])
  clear hU gU bU zU e2 S2 B2 Z2 hBB ZW hz a1 b1
  go_wp2
  go_loopw [4] (fun i wr => ∃ (k : Nat) (G : Gd) (L : List Nat), k ≤ 64 ∧ i = .int .i64 k ∧ Hid (DrwTo G a b k L) ∧ Hid (GBox wr B G) ∧ Hid (SrcAt wr s (4 + 12 * k)) ∧ Hid (Fr s B W wr)) (fun i _ => 64 - (intOf i).toNat)
  case atStart => exact ⟨0, _, [], by omega, rfl, Lib.hid (DrwTo.start a b), GB, SR, FR⟩
  case round =>
    clear GB SR FR
    obtain ⟨k, G, L, hk, rfl, DT, GB, SR, FR⟩ := hrel
    by_cases hlt : k < 64
    · have hk2 : (k : Int) < 64 := by omega
      cases hi : isB G k
      · have HI := Lib.hid hi
        have DN := Lib.hid (DT.out.skip hi)
        clear hi
        go_wp2_with (go_at_call 34; refine (l01Is_is G k hlt false HI.out _ _ GB.out.at' (DT.out.ok ha hb0)).mono ?_; rintro e V1 ⟨rfl, hw1⟩; cases hw1; dsimp only)
        go_roundw
        case rel => exact ⟨k + 1, G, L, by omega, by go_num, DN, GB, SR.out.more (by omega), FR⟩
        case measure => simp [intOf]; omega
      · have HI := Lib.hid hi
        clear hi
        go_upto_region 7 with (first | (go_at_call 34; refine (l01Is_is G k hlt true HI.out _ _ GB.out.at' (DT.out.ok ha hb0)).mono ?_; rintro e V1 ⟨rfl, hw1⟩; cases hw1; dsimp only) | (go_at_call 40; refine (pick_any s (4 + 12 * k) 12 (by omega) (by omega) (by omega) _ SR.out).mono ?_; rintro e V ⟨⟨x, hx, rfl⟩, hb, hz, hs⟩; have S2 := Lib.hid hs; have G2 := Lib.hid (GB.out.pick hb HS); have F2 := Lib.hid (FR.out.pick hb); have Fx := Lib.hid (con_ok x hx); have cU := (G2.out.at_some (2 + k) (by omega)); obtain ⟨u, cU⟩ := Option.isSome_iff_exists.1 cU; have fU := G2.out.free (2 + k) (by omega); clear hb hz hs SR GB FR) | (refine wpList_floatG rfl _ _ _ _ _ rfl rfl .f32 _ _ _ rfl rfl Fx.out ?_))
        obtain ⟨U, hU⟩ : ∃ U, V.setCell ⟨B, 2 + k, none⟩ (.float .f32 (conT x)) = U := ⟨_, rfl⟩
        rw [hU]
        have GB := Lib.hid (show GBox U B ⟨G.wide, G.high, (upd G.c k (conT x)), G.g, G.h, G.x⟩ by rw [← hU]; exact G2.out.putC hlt)
        have SR := Lib.hid (show SrcAt U s (4 + 12 * k + 2) by rw [← hU]; exact S2.out.put HS _ _)
        have FR := Lib.hid (show Fr s B W U by rw [← hU]; exact F2.out.put HS _ _)
        clear hU cU fU G2 S2 F2
        go_wp2_with (go_at_call 64; fail)
        refine (one_any s (4 + 12 * k + 2) 12 (by omega) (by omega) (by omega) _ SR.out).mono ?_
        rintro e V2 ⟨⟨r, rfl⟩, hb, hzz, hs⟩
        have S2 := Lib.hid hs
        have G2 := Lib.hid (GB.out.pick hb HS)
        have F2 := Lib.hid (FR.out.pick hb)
        clear hb hzz hs SR GB FR
        cases r
        · have GB := G2
          have SR := S2
          have FR := F2
          clear G2 S2 F2
          go_wp2_with (go_at_call 64; fail)
          refine (one_any s (4 + 12 * k + 2 + 2) 4 (by omega) (by omega) (by omega) _ SR.out).mono ?_
          rintro e V ⟨⟨r, rfl⟩, hb, hzz, hs⟩
          have S2 := Lib.hid hs
          have G2 := Lib.hid (GB.out.pick hb HS)
          have F2 := Lib.hid (FR.out.pick hb)
          clear hb hzz hs SR GB FR
          cases r
          · have GB := G2
            have SR := S2
            have FR := F2
            clear G2 S2 F2
            go_upto_region 12 with (first | (go_at_call 65; refine (few_any s (4 + 12 * k + 2 + 2 + 2) (by omega) _ SR.out).mono ?_; rintro e V ⟨⟨z, hz, rfl⟩, hb, hzz, hs⟩; have S2 := Lib.hid hs; have G2 := Lib.hid (GB.out.pick hb HS); have F2 := Lib.hid (FR.out.pick hb); have Fz := Lib.hid (hed_ok z hz); have cU := (G2.out.at_some (130 + k) (by omega)); obtain ⟨u, cU⟩ := Option.isSome_iff_exists.1 cU; have fU := G2.out.free (130 + k) (by omega); clear hb hzz hs SR GB FR) | (refine wpList_floatG rfl _ _ _ _ _ rfl rfl .f32 _ _ _ rfl rfl Fz.out ?_))
            obtain ⟨U, hU⟩ : ∃ U, V.setCell ⟨B, 130 + k, none⟩ (.float .f32 (hedT z)) = U := ⟨_, rfl⟩
            rw [hU]
            have GB := Lib.hid (show GBox U B ⟨G.wide, G.high, (upd G.c k (conT x)), G.g, (upd G.h k (hedT z)), G.x⟩ by rw [← hU]; exact G2.out.putH hlt)
            have SR := Lib.hid (show SrcAt U s (4 + 12 * k + 2 + 2 + 2 + 2) by rw [← hU]; exact S2.out.put HS _ _)
            have FR := Lib.hid (show Fr s B W U by rw [← hU]; exact F2.out.put HS _ _)
            clear hU cU fU G2 S2 F2
            go_wp2_with (go_at_call 64; fail)
            refine (one_any s (4 + 12 * k + 2 + 2 + 2 + 2) 5 (by omega) (by omega) (by omega) _ SR.out).mono ?_
            rintro e V ⟨⟨r, rfl⟩, hb, hzz, hs⟩
            have S2 := Lib.hid hs
            have G2 := Lib.hid (GB.out.pick hb HS)
            have F2 := Lib.hid (FR.out.pick hb)
            clear hb hzz hs SR GB FR
            cases r
            · have GB := G2
              have SR := S2
              have FR := F2
              go_wp2
              go_roundw
              case rel => exact ⟨k + 1, ⟨G.wide, G.high, (upd G.c k (conT x)), G.g, (upd G.h k (hedT z)), G.x⟩, L, by omega, by go_num, Lib.hid (DT.out.next hlt HI.out rfl rfl (fun i hi => upd_ne hi) (fun i hi => rfl) (fun i hi => upd_ne hi) (upd_P (P := conOk) (.inr ⟨x, hx, rfl⟩)) (.inl (DT.out.no k (.inl (Nat.le_refl _))).2.1) (upd_P (P := hedOk) ⟨z, hz, rfl⟩) DT.out.x (fun j hj => .inr hj)), GB, SR.out.more (by omega), FR⟩
              case measure => simp [intOf]; omega
            · have cx := G2.out.at'.x
              rw [Nat.zero_add] at cx
              have HOR := or_bit (maskL L) k (maskL_lt fun j hj => (DT.out.l j hj).2.1) hlt
              have hwk : IntKind.u64.wrap ((k : Nat) : Int) = (k : Int) := by rw [IntKind.wrap_u64]; omega
              have HX0 := DT.out.x
              rw [show (Gd.mk G.wide G.high (upd G.c k (conT x)) G.g (upd G.h k (hedT z)) G.x).x = ((maskL L : Nat) : Int) from HX0] at cx
              have fx := G2.out.free 194 (by omega)
              clear HX0
              go_wp2
              try rw [HOR]
              obtain ⟨U, hU⟩ : ∃ U, V.setCell ⟨B, 194, none⟩ (.int .u64 ((maskL L ||| 2 ^ k : Nat) : Int)) = U := ⟨_, rfl⟩
              rw [hU]
              have GB := Lib.hid (show GBox U B ⟨G.wide, G.high, (upd G.c k (conT x)), G.g, (upd G.h k (hedT z)), ((maskL (k :: L) : Nat) : Int)⟩ by rw [← hU]; exact G2.out.putX)
              have SR := Lib.hid (show SrcAt U s (4 + 12 * k + 2 + 2 + 2 + 2 + 2) by rw [← hU]; exact S2.out.put HS _ _)
              have FR := Lib.hid (show Fr s B W U by rw [← hU]; exact F2.out.put HS _ _)
              have HX : ((maskL (k :: L) : Nat) : Int) = ((maskL (k :: L) : Nat) : Int) := rfl
              clear hU cx fx G2 S2 F2 HOR
              go_roundw
              case rel => exact ⟨k + 1, ⟨G.wide, G.high, (upd G.c k (conT x)), G.g, (upd G.h k (hedT z)), ((maskL (k :: L) : Nat) : Int)⟩, (k :: L), by omega, by go_num, Lib.hid (DT.out.next hlt HI.out rfl rfl (fun i hi => upd_ne hi) (fun i hi => rfl) (fun i hi => upd_ne hi) (upd_P (P := conOk) (.inr ⟨x, hx, rfl⟩)) (.inl (DT.out.no k (.inl (Nat.le_refl _))).2.1) (upd_P (P := hedOk) ⟨z, hz, rfl⟩) HX (fun j hj => by simpa using hj)), GB, SR.out.more (by omega), FR⟩
              case measure => simp [intOf]; omega
          · have GB := G2
            have SR := S2
            have FR := F2
            clear G2 S2 F2
            go_upto_region 11 with (go_at_call 65; refine (few_any s (4 + 12 * k + 2 + 2 + 2) (by omega) _ SR.out).mono ?_; rintro e V2 ⟨⟨y, hy, rfl⟩, hb, hzz, hs⟩; have S2 := Lib.hid hs; have G2 := Lib.hid (GB.out.pick hb HS); have F2 := Lib.hid (FR.out.pick hb); have cU := (G2.out.at_some (66 + k) (by omega)); obtain ⟨u, cU⟩ := Option.isSome_iff_exists.1 cU; have fU := G2.out.free (66 + k) (by omega); clear hb hzz hs SR GB FR)
            obtain ⟨U, hU⟩ : ∃ U, V2.setCell ⟨B, 66 + k, none⟩ (.float .f32 (fewT y)) = U := ⟨_, rfl⟩
            rw [hU]
            have GB := Lib.hid (show GBox U B ⟨G.wide, G.high, (upd G.c k (conT x)), (upd G.g k (fewT y)), G.h, G.x⟩ by rw [← hU]; exact G2.out.putG hlt)
            have SR := Lib.hid (show SrcAt U s (4 + 12 * k + 2 + 2 + 2 + 2) by rw [← hU]; exact S2.out.put HS _ _)
            have FR := Lib.hid (show Fr s B W U by rw [← hU]; exact F2.out.put HS _ _)
            clear hU cU fU G2 S2 F2
            go_upto_region 12 with (first | (go_at_call 65; refine (few_any s (4 + 12 * k + 2 + 2 + 2 + 2) (by omega) _ SR.out).mono ?_; rintro e V ⟨⟨z, hz, rfl⟩, hb, hzz, hs⟩; have S2 := Lib.hid hs; have G2 := Lib.hid (GB.out.pick hb HS); have F2 := Lib.hid (FR.out.pick hb); have Fz := Lib.hid (hed_ok z hz); have cU := (G2.out.at_some (130 + k) (by omega)); obtain ⟨u, cU⟩ := Option.isSome_iff_exists.1 cU; have fU := G2.out.free (130 + k) (by omega); clear hb hzz hs SR GB FR) | (refine wpList_floatG rfl _ _ _ _ _ rfl rfl .f32 _ _ _ rfl rfl Fz.out ?_))
            obtain ⟨U, hU⟩ : ∃ U, V.setCell ⟨B, 130 + k, none⟩ (.float .f32 (hedT z)) = U := ⟨_, rfl⟩
            rw [hU]
            have GB := Lib.hid (show GBox U B ⟨G.wide, G.high, (upd G.c k (conT x)), (upd G.g k (fewT y)), (upd G.h k (hedT z)), G.x⟩ by rw [← hU]; exact G2.out.putH hlt)
            have SR := Lib.hid (show SrcAt U s (4 + 12 * k + 2 + 2 + 2 + 2 + 2) by rw [← hU]; exact S2.out.put HS _ _)
            have FR := Lib.hid (show Fr s B W U by rw [← hU]; exact F2.out.put HS _ _)
            clear hU cU fU G2 S2 F2
            go_wp2_with (go_at_call 64; fail)
            refine (one_any s (4 + 12 * k + 2 + 2 + 2 + 2 + 2) 5 (by omega) (by omega) (by omega) _ SR.out).mono ?_
            rintro e V ⟨⟨r, rfl⟩, hb, hzz, hs⟩
            have S2 := Lib.hid hs
            have G2 := Lib.hid (GB.out.pick hb HS)
            have F2 := Lib.hid (FR.out.pick hb)
            clear hb hzz hs SR GB FR
            cases r
            · have GB := G2
              have SR := S2
              have FR := F2
              go_wp2
              go_roundw
              case rel => exact ⟨k + 1, ⟨G.wide, G.high, (upd G.c k (conT x)), (upd G.g k (fewT y)), (upd G.h k (hedT z)), G.x⟩, L, by omega, by go_num, Lib.hid (DT.out.next hlt HI.out rfl rfl (fun i hi => upd_ne hi) (fun i hi => upd_ne hi) (fun i hi => upd_ne hi) (upd_P (P := conOk) (.inr ⟨x, hx, rfl⟩)) (upd_P (P := fewOk) (.inr ⟨y, hy, rfl⟩)) (upd_P (P := hedOk) ⟨z, hz, rfl⟩) DT.out.x (fun j hj => .inr hj)), GB, SR.out.more (by omega), FR⟩
              case measure => simp [intOf]; omega
            · have cx := G2.out.at'.x
              rw [Nat.zero_add] at cx
              have HOR := or_bit (maskL L) k (maskL_lt fun j hj => (DT.out.l j hj).2.1) hlt
              have hwk : IntKind.u64.wrap ((k : Nat) : Int) = (k : Int) := by rw [IntKind.wrap_u64]; omega
              have HX0 := DT.out.x
              rw [show (Gd.mk G.wide G.high (upd G.c k (conT x)) (upd G.g k (fewT y)) (upd G.h k (hedT z)) G.x).x = ((maskL L : Nat) : Int) from HX0] at cx
              have fx := G2.out.free 194 (by omega)
              clear HX0
              go_wp2
              try rw [HOR]
              obtain ⟨U, hU⟩ : ∃ U, V.setCell ⟨B, 194, none⟩ (.int .u64 ((maskL L ||| 2 ^ k : Nat) : Int)) = U := ⟨_, rfl⟩
              rw [hU]
              have GB := Lib.hid (show GBox U B ⟨G.wide, G.high, (upd G.c k (conT x)), (upd G.g k (fewT y)), (upd G.h k (hedT z)), ((maskL (k :: L) : Nat) : Int)⟩ by rw [← hU]; exact G2.out.putX)
              have SR := Lib.hid (show SrcAt U s (4 + 12 * k + 2 + 2 + 2 + 2 + 2 + 2) by rw [← hU]; exact S2.out.put HS _ _)
              have FR := Lib.hid (show Fr s B W U by rw [← hU]; exact F2.out.put HS _ _)
              have HX : ((maskL (k :: L) : Nat) : Int) = ((maskL (k :: L) : Nat) : Int) := rfl
              clear hU cx fx G2 S2 F2 HOR
              go_roundw
              case rel => exact ⟨k + 1, ⟨G.wide, G.high, (upd G.c k (conT x)), (upd G.g k (fewT y)), (upd G.h k (hedT z)), ((maskL (k :: L) : Nat) : Int)⟩, (k :: L), by omega, by go_num, Lib.hid (DT.out.next hlt HI.out rfl rfl (fun i hi => upd_ne hi) (fun i hi => upd_ne hi) (fun i hi => upd_ne hi) (upd_P (P := conOk) (.inr ⟨x, hx, rfl⟩)) (upd_P (P := fewOk) (.inr ⟨y, hy, rfl⟩)) (upd_P (P := hedOk) ⟨z, hz, rfl⟩) HX (fun j hj => by simpa using hj)), GB, SR.out.more (by omega), FR⟩
              case measure => simp [intOf]; omega
        · have cU := (G2.out.at_some (2 + k) (by omega))
          obtain ⟨u, cU⟩ := Option.isSome_iff_exists.1 cU
          have fU := G2.out.free (2 + k) (by omega)
          go_upto_region 9 with (fail)
          obtain ⟨U, hU⟩ : ∃ U, V2.setCell ⟨B, 2 + k, none⟩ (.float .f32 0) = U := ⟨_, rfl⟩
          rw [hU]
          have GB := Lib.hid (show GBox U B ⟨G.wide, G.high, (upd (upd G.c k (conT x)) k 0), G.g, G.h, G.x⟩ by rw [← hU]; exact G2.out.putC hlt)
          have SR := Lib.hid (show SrcAt U s (4 + 12 * k + 2 + 2) by rw [← hU]; exact S2.out.put HS _ _)
          have FR := Lib.hid (show Fr s B W U by rw [← hU]; exact F2.out.put HS _ _)
          clear hU cU fU G2 S2 F2
          go_wp2_with (go_at_call 64; fail)
          refine (one_any s (4 + 12 * k + 2 + 2) 4 (by omega) (by omega) (by omega) _ SR.out).mono ?_
          rintro e V ⟨⟨r, rfl⟩, hb, hzz, hs⟩
          have S2 := Lib.hid hs
          have G2 := Lib.hid (GB.out.pick hb HS)
          have F2 := Lib.hid (FR.out.pick hb)
          clear hb hzz hs SR GB FR
          cases r
          · have GB := G2
            have SR := S2
            have FR := F2
            clear G2 S2 F2
            go_upto_region 12 with (first | (go_at_call 65; refine (few_any s (4 + 12 * k + 2 + 2 + 2) (by omega) _ SR.out).mono ?_; rintro e V ⟨⟨z, hz, rfl⟩, hb, hzz, hs⟩; have S2 := Lib.hid hs; have G2 := Lib.hid (GB.out.pick hb HS); have F2 := Lib.hid (FR.out.pick hb); have Fz := Lib.hid (hed_ok z hz); have cU := (G2.out.at_some (130 + k) (by omega)); obtain ⟨u, cU⟩ := Option.isSome_iff_exists.1 cU; have fU := G2.out.free (130 + k) (by omega); clear hb hzz hs SR GB FR) | (refine wpList_floatG rfl _ _ _ _ _ rfl rfl .f32 _ _ _ rfl rfl Fz.out ?_))
            obtain ⟨U, hU⟩ : ∃ U, V.setCell ⟨B, 130 + k, none⟩ (.float .f32 (hedT z)) = U := ⟨_, rfl⟩
            rw [hU]
            have GB := Lib.hid (show GBox U B ⟨G.wide, G.high, (upd (upd G.c k (conT x)) k 0), G.g, (upd G.h k (hedT z)), G.x⟩ by rw [← hU]; exact G2.out.putH hlt)
            have SR := Lib.hid (show SrcAt U s (4 + 12 * k + 2 + 2 + 2 + 2) by rw [← hU]; exact S2.out.put HS _ _)
            have FR := Lib.hid (show Fr s B W U by rw [← hU]; exact F2.out.put HS _ _)
            clear hU cU fU G2 S2 F2
            go_wp2_with (go_at_call 64; fail)
            refine (one_any s (4 + 12 * k + 2 + 2 + 2 + 2) 5 (by omega) (by omega) (by omega) _ SR.out).mono ?_
            rintro e V ⟨⟨r, rfl⟩, hb, hzz, hs⟩
            have S2 := Lib.hid hs
            have G2 := Lib.hid (GB.out.pick hb HS)
            have F2 := Lib.hid (FR.out.pick hb)
            clear hb hzz hs SR GB FR
            cases r
            · have GB := G2
              have SR := S2
              have FR := F2
              go_wp2
              go_roundw
              case rel => exact ⟨k + 1, ⟨G.wide, G.high, (upd (upd G.c k (conT x)) k 0), G.g, (upd G.h k (hedT z)), G.x⟩, L, by omega, by go_num, Lib.hid (DT.out.next hlt HI.out rfl rfl (fun i hi => (upd_ne hi).trans (upd_ne hi)) (fun i hi => rfl) (fun i hi => upd_ne hi) (upd_P (P := conOk) (.inl rfl)) (.inl (DT.out.no k (.inl (Nat.le_refl _))).2.1) (upd_P (P := hedOk) ⟨z, hz, rfl⟩) DT.out.x (fun j hj => .inr hj)), GB, SR.out.more (by omega), FR⟩
              case measure => simp [intOf]; omega
            · have cx := G2.out.at'.x
              rw [Nat.zero_add] at cx
              have HOR := or_bit (maskL L) k (maskL_lt fun j hj => (DT.out.l j hj).2.1) hlt
              have hwk : IntKind.u64.wrap ((k : Nat) : Int) = (k : Int) := by rw [IntKind.wrap_u64]; omega
              have HX0 := DT.out.x
              rw [show (Gd.mk G.wide G.high (upd (upd G.c k (conT x)) k 0) G.g (upd G.h k (hedT z)) G.x).x = ((maskL L : Nat) : Int) from HX0] at cx
              have fx := G2.out.free 194 (by omega)
              clear HX0
              go_wp2
              try rw [HOR]
              obtain ⟨U, hU⟩ : ∃ U, V.setCell ⟨B, 194, none⟩ (.int .u64 ((maskL L ||| 2 ^ k : Nat) : Int)) = U := ⟨_, rfl⟩
              rw [hU]
              have GB := Lib.hid (show GBox U B ⟨G.wide, G.high, (upd (upd G.c k (conT x)) k 0), G.g, (upd G.h k (hedT z)), ((maskL (k :: L) : Nat) : Int)⟩ by rw [← hU]; exact G2.out.putX)
              have SR := Lib.hid (show SrcAt U s (4 + 12 * k + 2 + 2 + 2 + 2 + 2) by rw [← hU]; exact S2.out.put HS _ _)
              have FR := Lib.hid (show Fr s B W U by rw [← hU]; exact F2.out.put HS _ _)
              have HX : ((maskL (k :: L) : Nat) : Int) = ((maskL (k :: L) : Nat) : Int) := rfl
              clear hU cx fx G2 S2 F2 HOR
              go_roundw
              case rel => exact ⟨k + 1, ⟨G.wide, G.high, (upd (upd G.c k (conT x)) k 0), G.g, (upd G.h k (hedT z)), ((maskL (k :: L) : Nat) : Int)⟩, (k :: L), by omega, by go_num, Lib.hid (DT.out.next hlt HI.out rfl rfl (fun i hi => (upd_ne hi).trans (upd_ne hi)) (fun i hi => rfl) (fun i hi => upd_ne hi) (upd_P (P := conOk) (.inl rfl)) (.inl (DT.out.no k (.inl (Nat.le_refl _))).2.1) (upd_P (P := hedOk) ⟨z, hz, rfl⟩) HX (fun j hj => by simpa using hj)), GB, SR.out.more (by omega), FR⟩
              case measure => simp [intOf]; omega
          · have GB := G2
            have SR := S2
            have FR := F2
            clear G2 S2 F2
            go_upto_region 11 with (go_at_call 65; refine (few_any s (4 + 12 * k + 2 + 2 + 2) (by omega) _ SR.out).mono ?_; rintro e V2 ⟨⟨y, hy, rfl⟩, hb, hzz, hs⟩; have S2 := Lib.hid hs; have G2 := Lib.hid (GB.out.pick hb HS); have F2 := Lib.hid (FR.out.pick hb); have cU := (G2.out.at_some (66 + k) (by omega)); obtain ⟨u, cU⟩ := Option.isSome_iff_exists.1 cU; have fU := G2.out.free (66 + k) (by omega); clear hb hzz hs SR GB FR)
            obtain ⟨U, hU⟩ : ∃ U, V2.setCell ⟨B, 66 + k, none⟩ (.float .f32 (fewT y)) = U := ⟨_, rfl⟩
            rw [hU]
            have GB := Lib.hid (show GBox U B ⟨G.wide, G.high, (upd (upd G.c k (conT x)) k 0), (upd G.g k (fewT y)), G.h, G.x⟩ by rw [← hU]; exact G2.out.putG hlt)
            have SR := Lib.hid (show SrcAt U s (4 + 12 * k + 2 + 2 + 2 + 2) by rw [← hU]; exact S2.out.put HS _ _)
            have FR := Lib.hid (show Fr s B W U by rw [← hU]; exact F2.out.put HS _ _)
            clear hU cU fU G2 S2 F2
            go_upto_region 12 with (first | (go_at_call 65; refine (few_any s (4 + 12 * k + 2 + 2 + 2 + 2) (by omega) _ SR.out).mono ?_; rintro e V ⟨⟨z, hz, rfl⟩, hb, hzz, hs⟩; have S2 := Lib.hid hs; have G2 := Lib.hid (GB.out.pick hb HS); have F2 := Lib.hid (FR.out.pick hb); have Fz := Lib.hid (hed_ok z hz); have cU := (G2.out.at_some (130 + k) (by omega)); obtain ⟨u, cU⟩ := Option.isSome_iff_exists.1 cU; have fU := G2.out.free (130 + k) (by omega); clear hb hzz hs SR GB FR) | (refine wpList_floatG rfl _ _ _ _ _ rfl rfl .f32 _ _ _ rfl rfl Fz.out ?_))
            obtain ⟨U, hU⟩ : ∃ U, V.setCell ⟨B, 130 + k, none⟩ (.float .f32 (hedT z)) = U := ⟨_, rfl⟩
            rw [hU]
            have GB := Lib.hid (show GBox U B ⟨G.wide, G.high, (upd (upd G.c k (conT x)) k 0), (upd G.g k (fewT y)), (upd G.h k (hedT z)), G.x⟩ by rw [← hU]; exact G2.out.putH hlt)
            have SR := Lib.hid (show SrcAt U s (4 + 12 * k + 2 + 2 + 2 + 2 + 2) by rw [← hU]; exact S2.out.put HS _ _)
            have FR := Lib.hid (show Fr s B W U by rw [← hU]; exact F2.out.put HS _ _)
            clear hU cU fU G2 S2 F2
            go_wp2_with (go_at_call 64; fail)
            refine (one_any s (4 + 12 * k + 2 + 2 + 2 + 2 + 2) 5 (by omega) (by omega) (by omega) _ SR.out).mono ?_
            rintro e V ⟨⟨r, rfl⟩, hb, hzz, hs⟩
            have S2 := Lib.hid hs
            have G2 := Lib.hid (GB.out.pick hb HS)
            have F2 := Lib.hid (FR.out.pick hb)
            clear hb hzz hs SR GB FR
            cases r
            · have GB := G2
              have SR := S2
              have FR := F2
              go_wp2
              go_roundw
              case rel => exact ⟨k + 1, ⟨G.wide, G.high, (upd (upd G.c k (conT x)) k 0), (upd G.g k (fewT y)), (upd G.h k (hedT z)), G.x⟩, L, by omega, by go_num, Lib.hid (DT.out.next hlt HI.out rfl rfl (fun i hi => (upd_ne hi).trans (upd_ne hi)) (fun i hi => upd_ne hi) (fun i hi => upd_ne hi) (upd_P (P := conOk) (.inl rfl)) (upd_P (P := fewOk) (.inr ⟨y, hy, rfl⟩)) (upd_P (P := hedOk) ⟨z, hz, rfl⟩) DT.out.x (fun j hj => .inr hj)), GB, SR.out.more (by omega), FR⟩
              case measure => simp [intOf]; omega
            · have cx := G2.out.at'.x
              rw [Nat.zero_add] at cx
              have HOR := or_bit (maskL L) k (maskL_lt fun j hj => (DT.out.l j hj).2.1) hlt
              have hwk : IntKind.u64.wrap ((k : Nat) : Int) = (k : Int) := by rw [IntKind.wrap_u64]; omega
              have HX0 := DT.out.x
              rw [show (Gd.mk G.wide G.high (upd (upd G.c k (conT x)) k 0) (upd G.g k (fewT y)) (upd G.h k (hedT z)) G.x).x = ((maskL L : Nat) : Int) from HX0] at cx
              have fx := G2.out.free 194 (by omega)
              clear HX0
              go_wp2
              try rw [HOR]
              obtain ⟨U, hU⟩ : ∃ U, V.setCell ⟨B, 194, none⟩ (.int .u64 ((maskL L ||| 2 ^ k : Nat) : Int)) = U := ⟨_, rfl⟩
              rw [hU]
              have GB := Lib.hid (show GBox U B ⟨G.wide, G.high, (upd (upd G.c k (conT x)) k 0), (upd G.g k (fewT y)), (upd G.h k (hedT z)), ((maskL (k :: L) : Nat) : Int)⟩ by rw [← hU]; exact G2.out.putX)
              have SR := Lib.hid (show SrcAt U s (4 + 12 * k + 2 + 2 + 2 + 2 + 2 + 2) by rw [← hU]; exact S2.out.put HS _ _)
              have FR := Lib.hid (show Fr s B W U by rw [← hU]; exact F2.out.put HS _ _)
              have HX : ((maskL (k :: L) : Nat) : Int) = ((maskL (k :: L) : Nat) : Int) := rfl
              clear hU cx fx G2 S2 F2 HOR
              go_roundw
              case rel => exact ⟨k + 1, ⟨G.wide, G.high, (upd (upd G.c k (conT x)) k 0), (upd G.g k (fewT y)), (upd G.h k (hedT z)), ((maskL (k :: L) : Nat) : Int)⟩, (k :: L), by omega, by go_num, Lib.hid (DT.out.next hlt HI.out rfl rfl (fun i hi => (upd_ne hi).trans (upd_ne hi)) (fun i hi => upd_ne hi) (fun i hi => upd_ne hi) (upd_P (P := conOk) (.inl rfl)) (upd_P (P := fewOk) (.inr ⟨y, hy, rfl⟩)) (upd_P (P := hedOk) ⟨z, hz, rfl⟩) HX (fun j hj => by simpa using hj)), GB, SR.out.more (by omega), FR⟩
              case measure => simp [intOf]; omega
    · obtain rfl : k = 64 := by omega
      have RR := Lib.hid (GR.out.same (FR.out.2 w.heap.size (by omega) (by have := HBR.out; omega)))
      have hB1 : w.heap.size < B := by have := HBR.out; omega
      have cx := GB.out.at'.x
      have fx := GB.out.free 194 (by omega)
      rw [Nat.zero_add] at cx
      rw [show G.x = ((maskL L : Nat) : Int) from DT.out.x] at cx
      by_cases hL : L = []
      · subst hL
        replace cx : wr.cell? ⟨B, 194, none⟩ = some (.int .u64 0) := cx
        go_upto_region 16 with (fail)
        obtain ⟨U, hU⟩ : ∃ U, wr.setCell ⟨B, 194, none⟩ (.int .u64 1) = U := ⟨_, rfl⟩
        rw [hU]
        obtain ⟨GG, hGG⟩ : ∃ GG, (⟨G.wide, G.high, G.c, G.g, G.h, 1⟩ : Gd) = GG := ⟨_, rfl⟩
        have DD := Lib.hid (show Drw GG by rw [← hGG]; exact ⟨a, b, [0], ha, hb0, DT.out.fix, by simp⟩)
        have RR := Lib.hid (show GBox U w.heap.size zG by rw [← hU]; exact RR.out.far (by omega))
        have FE0 := Lib.hid (show Fr s B W U by rw [← hU]; exact FR.out.put HS _ _)
        have SE0 := Lib.hid (show SrcAt U s 1000 by rw [← hU]; exact (SR.out.put HS _ _).more (by omega))
        have GB := Lib.hid (show GBox U B GG by rw [← hU, ← hGG]; exact GB.out.putX)
        clear hU cx fx
        go_wp2_with (first | (refine ld_stage 32 rfl ?_; refine wpList_load_mid rfl 32 _ rfl B 0 rfl (GrdL GG) _ GB.out.range Tryd.underlying32 rfl (by rw [GrdL_length]; exact infoGround) ?_) | (refine st_stage 32 rfl ?_; refine wpList_store_mid rfl 32 _ _ rfl w.heap.size 0 (Grd GG) rfl rfl (by rw [Grd_size]; exact RR.out.there) (by rw [Grd_size]; exact infoGround) (Grd_one _) ?_))
        have FE := Lib.hid (show Fr s w.heap.size w (U.setCells w.heap.size 0 (GrdL GG)) from ⟨below_setCells _ (by omega) _ _ _ (FW.out.1.trans FE0.out.1), fun j h1 h2 => (heap_setCells_other _ (show j ≠ w.heap.size by omega)).trans ((FE0.out.2 j h1 (by omega)).trans (FW.out.2 j h1 h2))⟩)
        have SE := Lib.hid (show SrcAt (U.setCells w.heap.size 0 (GrdL GG)) s 1000 from SE0.out.keepG (below_setCells _ (by omega) _ _ _ (Below.refl _ _)))
        refine bodyPost_ret (results_aggG rfl _ _ w.heap.size (Grd GG) rfl (RR.out.store (H := GG)).range Tryd.underlying32 rfl (by rw [Grd_toList, GrdL_length]; exact infoGround)) rfl ⟨⟨GG, rfl, DD.out⟩, FE.out, SE.out⟩
      · have hne := maskL_ne hL
        have hx1 : ¬ ((maskL L : Nat) : Int) = 0 := by omega
        have hx2 : (((maskL L : Nat) : Int) == 0) = false := by simpa using hne
        obtain ⟨GG, hGG⟩ : ∃ GG, G = GG := ⟨_, rfl⟩
        have DD := Lib.hid (show Drw GG by rw [← hGG]; exact ⟨a, b, L, ha, hb0, DT.out, hL⟩)
        rw [hGG] at GB
        clear hGG hne
        generalize ((maskL L : Nat) : Int) = z at cx hx1 hx2
        go_wp2_with (first | (refine ld_stage 32 rfl ?_; refine wpList_load_mid rfl 32 _ rfl B 0 rfl (GrdL GG) _ GB.out.range Tryd.underlying32 rfl (by rw [GrdL_length]; exact infoGround) ?_) | (refine st_stage 32 rfl ?_; refine wpList_store_mid rfl 32 _ _ rfl w.heap.size 0 (Grd GG) rfl rfl (by rw [Grd_size]; exact RR.out.there) (by rw [Grd_size]; exact infoGround) (Grd_one _) ?_))
        have FE := Lib.hid (show Fr s w.heap.size w (wr.setCells w.heap.size 0 (GrdL GG)) from ⟨below_setCells _ (by omega) _ _ _ (FW.out.1.trans FR.out.1), fun j h1 h2 => (heap_setCells_other _ (show j ≠ w.heap.size by omega)).trans ((FR.out.2 j h1 (by omega)).trans (FW.out.2 j h1 h2))⟩)
        have SE := Lib.hid (show SrcAt (wr.setCells w.heap.size 0 (GrdL GG)) s 1000 from (SR.out.more (by omega)).keepG (below_setCells _ (by omega) _ _ _ (Below.refl _ _)))
        refine bodyPost_ret (results_aggG rfl _ _ w.heap.size (Grd GG) rfl (RR.out.store (H := GG)).range Tryd.underlying32 rfl (by rw [Grd_toList, GrdL_length]; exact infoGround)) rfl ⟨⟨GG, rfl, DD.out⟩, FE.out, SE.out⟩
end Go.Proofs.YtjhaonfdapldcaaDoor
