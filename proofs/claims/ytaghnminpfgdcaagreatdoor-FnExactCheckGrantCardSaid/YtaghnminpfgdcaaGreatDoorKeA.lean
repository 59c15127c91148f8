/- A clerk's meter (six int16) and the map whose keys they are. No condition. · Choices of permits: choice.with. Condition: fewer than 40 of them. · A choice's meter. Condition: at most six permits. · A clerk. Condition: the table of math/bits is laid. -/
import Derived.Test.YtaghnminpfgdcaaGreatDoorPm
import Derived.Test.YtaghnminpfgdcaaGreatDoorHelp
import Derived.WideKeyRuns
import Derived.Test.YtaghnminpfgdcaaGreatDoorApP
import Derived.Test.YtaghnminpfgdcaaGreatDoorKp
namespace Go.Proofs.YtaghnminpfgdcaaGreatDoor

section
open Go Go.RowKit
set_option linter.unusedSimpArgs false
set_option linter.unusedVariables false

/-- An array of 6 whole numbers. -/
def M6 (f : Nat → Int) : Array Value := ((List.range 6).map fun i => Value.int .i16 (f i)).toArray
theorem M6_size (f : Nat → Int) : (M6 f).size = 6 := by simp [M6]
theorem M6_at (f : Nat → Int) (i : Nat) (h : i < 6) : (M6 f)[i]? = some (.int .i16 (f i)) := by
  simp [M6, h]
theorem M6_congr {f g : Nat → Int} (h : ∀ i, i < 6 → f i = g i) : M6 f = M6 g := by
  have : (List.range 6).map (fun i => Value.int .i16 (f i)) = (List.range 6).map (fun i => Value.int .i16 (g i)) :=
    List.map_congr_left fun i hi => by rw [h i (by simpa using hi)]
  unfold M6
  rw [this]
theorem M6_put (f : Nat → Int) (k : Nat) (b : Int) : (M6 f).setIfInBounds k (.int .i16 b) = M6 (fun i => if i = k then b else f i) := by
  apply Array.ext
  · simp [M6]
  · intro i h1 h2
    rw [Array.getElem_setIfInBounds]
    · simp only [M6, List.getElem_toArray, List.getElem_map, List.getElem_range]
      by_cases e : k = i
      · subst e; simp
      · rw [if_neg e, if_neg (fun h => e h.symm)]
    · simpa [M6] using h2
theorem M6_length (f : Nat → Int) : (M6 f).toList.length = 6 := by simp [M6]
theorem M6_one (f : Nat → Int) : (M6 f).all (·.oneCell') = true := by
  refine all_oneCell_toArray fun v hv => ?_
  simp only [List.mem_map] at hv
  obtain ⟨i, _, rfl⟩ := hv
  rfl
theorem part_m6 (f : Nat → Int) (i : Nat) (hi : i < 6) (w : World) : (part 80 (M6 f) (i * 1)).run Tryz.prog w = .ok (.int .i16 (f i)) w := by
  have h := M6_at f i hi
  simp [part, isAgg, run_underlying Tryz.underlying80, h]
theorem equal_i16m (d : Nat) (a b : Int) (w : World) : (Op.equalIn (d + 1) 80 (.int .i16 a) (.int .i16 b)).run Tryz.prog w = .ok (a == b) w := by
  simp [Op.equalIn, run_underlying Tryz.underlying80]
def eq6 (f g : Nat → Int) : Bool := (List.range 6).all fun i => f i == g i
theorem eqItems_m6 (d : Nat) (f g : Nat → Int) (w : World) : ∀ (is : List Nat), (∀ i ∈ is, i < 6) →
    (Op.eqItems (d + 1) 80 1 (M6 f) (M6 g) is).run Tryz.prog w = .ok (is.all fun i => f i == g i) w
  | [], _ => by simp [Op.eqItems]
  | i :: is, h => by
    have ih := eqItems_m6 d f g w is (fun j hj => h j (by simp [hj]))
    have hi := h i (by simp)
    simp only [Op.eqItems, Sem.run_bind, part_m6 f i hi w, part_m6 g i hi w, equal_i16m, Result.andThen_ok, List.all_cons]
    cases f i == g i
    · simp
    · simpa using ih
theorem info_i16m : ∃ i, Tryz.prog.info? 80 = some i := by
  have h := Tryz.underlying80
  unfold Program.underlying at h
  cases hi : Tryz.prog.info? 80 with
  | none => simp [hi] at h
  | some i => exact ⟨i, rfl⟩
theorem cells_i16m : Tryz.prog.cellsOf 80 = 1 := by kernel_rfl
theorem eqlM6 (f g : Nat → Int) (w : World) : (Op.equal 163 (.agg (M6 f)) (.agg (M6 g))).run Tryz.prog w = .ok (eq6 f g) w := by
  obtain ⟨i, hi⟩ := info_i16m
  show (Op.equalIn 10000 163 (.agg (M6 f)) (.agg (M6 g))).run Tryz.prog w = .ok (eq6 f g) w
  rw [show (10000 : Nat) = 9998 + 1 + 1 from rfl, run_equalIn_array w (9998 + 1) (M6 f) (M6 g) Tryz.underlying163 hi, cells_i16m]
  exact eqItems_m6 9998 f g w (List.range 6) (fun i hi => by simpa using hi)
theorem eq6_yes {f g : Nat → Int} (h : eq6 f g = true) : M6 f = M6 g := M6_congr fun i hi => by
  have := List.all_eq_true.1 h i (by simpa using hi)
  simpa using this
theorem sizeOf_i16m (w : World) : (sizeOf 80).run Tryz.prog w = .ok 1 w := by kernel_rfl
theorem check_i16 (em : Bool) (n : Nat) (a : Int) (w : World) : (Instr.checkKey em (n + 1) 80 (.int .i16 a)).run Tryz.prog w = .ok () w := by
  simp [Instr.checkKey, run_underlying Tryz.underlying80]
theorem check_loop (em : Bool) (n : Nat) (f : Nat → Int) (w : World) : ∀ (is : List Nat), (∀ i ∈ is, i < 6) →
    (forIn is () (fun i (_ : Unit) => do
      let s ← sizeOf 80
      let a ← part 80 (M6 f) (i * s)
      Instr.checkKey em (n + 1) 80 a
      pure (ForInStep.yield ())) : Sem Unit).run Tryz.prog w = .ok () w
  | [], _ => by simp
  | i :: is, h => by
    have hi := part_m6 f i (h i (by simp)) w
    have ih := check_loop em n f w is (fun j hj => h j (by simp [hj]))
    simp only [List.forIn_cons, Sem.run_bind, sizeOf_i16m, hi, check_i16, Result.andThen_ok, Sem.run_pure]
    exact ih
set_option maxRecDepth 20000 in
theorem check_m6n (em : Bool) (n : Nat) (f : Nat → Int) (w : World) : (Instr.checkKey em (n + 1 + 1) 163 (.agg (M6 f))).run Tryz.prog w = .ok () w := by
  have hl := check_loop em n f w (List.range' 0 6) (fun i hi => by simp at hi; omega)
  rw [Instr.checkKey]
  simp only [Sem.run_bind, run_underlying Tryz.underlying163, Result.andThen_ok, Std.Legacy.Range.forIn_eq_forIn_range', Std.Legacy.Range.size, Nat.sub_zero, Nat.add_one_sub_one, Nat.div_one, Nat.reduceAdd, Nat.reduceSub]
  simp only [bind_pure_comp] at hl ⊢
  rw [hl]
  simp
theorem check_m6 (em : Bool) (f : Nat → Int) (w : World) : (Instr.checkKey em 10000 163 (.agg (M6 f))).run Tryz.prog w = .ok () w := check_m6n em 9998 f w
/-- A map of meters: what is kept of each is what Kf says. -/
def MapK (Kf : Array Value → Bool) (es : List MapEntry) : Prop := ∀ e ∈ es, ∃ f, e.key = .agg (M6 f) ∧ e.val = .bool (Kf (M6 f))
def NotIn (f : Nat → Int) (es : List MapEntry) : Prop := ∀ e ∈ es, ∃ g, e.key = .agg (M6 g) ∧ eq6 f g = false
theorem ask_m6 (Kf : Array Value → Bool) (f : Nat → Int) (w : World) : ∀ (es : List MapEntry) (i : Nat), MapK Kf es →
    ((Instr.findAsking 163 (.agg (M6 f)) es i).run Tryz.prog w = .ok none w ∧ NotIn f es) ∨ (∃ j, (Instr.findAsking 163 (.agg (M6 f)) es i).run Tryz.prog w = .ok (some (j, .bool (Kf (M6 f)))) w)
  | [], i, _ => .inl ⟨by simp [Instr.findAsking], fun e h => by simp at h⟩
  | e :: es, i, h => by
    obtain ⟨g, hk, hv⟩ := h e (by simp)
    have he := eqlM6 f g w
    cases hq : eq6 f g
    · rw [hq] at he
      rcases ask_m6 Kf f w es (i + 1) (fun y hy => h y (by simp [hy])) with ⟨h1, h2⟩ | ⟨j, h1⟩
      · left
        refine ⟨by simp [Instr.findAsking, hk, he, h1], fun y hy => ?_⟩
        rcases List.mem_cons.1 hy with rfl | hy
        · exact ⟨g, hk, hq⟩
        · exact h2 y hy
      · exact .inr ⟨j, by simp [Instr.findAsking, hk, he, h1]⟩
    · rw [hq] at he
      refine .inr ⟨i, ?_⟩
      have e := eq6_yes hq
      rw [e] at he
      simp [Instr.findAsking, hk, e, he, hv]
theorem find_m6 (f : Nat → Int) (w : World) (es : List MapEntry) : (Instr.findKey 163 (.agg (M6 f)) es).run Tryz.prog w = (Instr.findAsking 163 (.agg (M6 f)) es).run Tryz.prog w :=
  run_findKey_eq w (by rw [Tryz.underlying163]) _ es
theorem notIn_ask {f : Nat → Int} (w : World) : ∀ (es : List MapEntry) (i : Nat), NotIn f es → (Instr.findAsking 163 (.agg (M6 f)) es i).run Tryz.prog w = .ok none w
  | [], i, _ => by simp [Instr.findAsking]
  | e :: es, i, h => by
    obtain ⟨g, hk, hq⟩ := h e (by simp)
    have he := eqlM6 f g w
    rw [hq] at he
    simp [Instr.findAsking, hk, he, notIn_ask w es (i + 1) (fun y hy => h y (by simp [hy]))]
theorem zero_bool (w : World) : (zeroValue 4).run Tryz.prog w = .ok (.bool false) w := by kernel_rfl
/-- A look into the map. -/
theorem look_m6 {Kf : Array Value → Bool} {w : World} {b clock : Nat} {es : Array MapEntry} (hb : w.heap[b]? = some (.map es clock)) (hK : MapK Kf es.toList) (f : Nat → Int) :
    ((Instr.lookup 109 (.map (some b)) (.agg (M6 f)) true).run Tryz.prog w = .ok (.tuple #[.bool false, .bool false]) w ∧ NotIn f es.toList) ∨ (Instr.lookup 109 (.map (some b)) (.agg (M6 f)) true).run Tryz.prog w = .ok (.tuple #[.bool (Kf (M6 f)), .bool true]) w := by
  rcases ask_m6 Kf f w es.toList 0 hK with ⟨h1, h2⟩ | ⟨j, h1⟩
  · left
    refine ⟨?_, h2⟩
    simp [Instr.lookup, run_underlying Tryz.underlying109, MapKept.run_getObj_map hb, check_m6, find_m6, h1, zero_bool, Result.andThen]
  · right
    simp [Instr.lookup, run_underlying Tryz.underlying109, MapKept.run_getObj_map hb, check_m6, find_m6, h1, Result.andThen]
/-- A meter that is not in the map is put into it. -/
theorem put_m6 {Kf : Array Value → Bool} {w : World} {b clock : Nat} {es : Array MapEntry} (hb : w.heap[b]? = some (.map es clock)) (hK : MapK Kf es.toList) (f : Nat → Int) (hn : NotIn f es.toList) :
    ∃ es' clock' w', (Instr.mapUpdate 109 (.map (some b)) (.agg (M6 f)) (.bool (Kf (M6 f)))).run Tryz.prog w = .ok () w' ∧ w'.heap[b]? = some (.map es' clock') ∧ MapK Kf es'.toList ∧ Below b w w' ∧ w'.heap.size = w.heap.size ∧ ∀ x, x ≠ b → w'.heap[x]? = w.heap[x]? := by
  have hlt : b < w.heap.size := (Array.getElem?_eq_some_iff.1 hb).1
  refine ⟨es.push ⟨.agg (M6 f), .bool (Kf (M6 f)), clock⟩, clock + 1, { w with heap := w.heap.setIfInBounds b (.map (es.push ⟨.agg (M6 f), .bool (Kf (M6 f)), clock⟩) (clock + 1)) }, ?_, ?_, ?_, ⟨rfl, rfl, rfl, by simp, fun k hk => ?_⟩, by simp, fun x hx => ?_⟩
  · simp [Instr.mapUpdate, run_underlying Tryz.underlying109, MapKept.run_getObj_map hb, check_m6, find_m6, notIn_ask w es.toList 0 hn, MapKept.run_setObj_map _ hb, Result.andThen]
  · simp [hlt]
  · intro e he
    simp only [Array.toList_push, List.mem_append, List.mem_singleton] at he
    rcases he with he | rfl
    · exact hK e he
    · exact ⟨f, rfl, rfl⟩
  · exact Array.getElem?_setIfInBounds_ne (by omega)
  · exact Array.getElem?_setIfInBounds_ne (fun h => hx h.symm)
end

section
open Go Go.RowKit
set_option linter.unusedSimpArgs false
set_option linter.unusedVariables false
attribute [local go_sem] Oper.semAt_some

/-- The cells of a list that lies at the head of a block, or is nil and empty. -/
def CAt (w : World) (p : Option Addr) (cs : List Value) : Prop := (p = none ∧ cs = []) ∨ ∃ b, p = some ⟨b, 0, none⟩ ∧ b < w.heap.size ∧ w.rangeAt b 0 cs
/-- The cells of a list of permits. -/
def plL (L : List P3) : List Value := L.flatMap p3
theorem plL_len (L : List P3) : (plL L).length = L.length * 3 := by
  induction L with
  | nil => rfl
  | cons e r ih => simp only [plL, List.flatMap_cons, List.length_append, p3_len, List.length_cons] at ih ⊢; omega
theorem CAt.keep {w w' : World} {p : Option Addr} {cs : List Value} (h : CAt w p cs) (hB : Below w.heap.size w w') : CAt w' p cs := by
  rcases h with h | ⟨b, h1, h2, h3⟩
  · exact .inl h
  · exact .inr ⟨b, h1, Nat.lt_of_lt_of_le h2 hB.size, range_kept h3 h2 w' hB⟩
theorem CAt.form {w : World} {p : Option Addr} {cs : List Value} (h : CAt w p cs) : p.map (·.add 0) = p := by
  rcases h with ⟨rfl, _⟩ | ⟨b, rfl, _⟩ <;> simp [Addr.add]
theorem sl3_op {P : Program} {op : Oper} {a : Act} {x y z : Operand} {t e : TypeId} {p : Option Addr} {n c : Nat} (ho : op.op = .slice t x none (some y) (some z)) (ht : P.underlying t = some (.slice e)) (he : ∃ i, P.info? e = some i)
    (hx : a.eval x = .slice p n c) (hy : a.eval y = .int .i64 n) (hz : a.eval z = .int .i64 n) (hn : n ≤ c) (hp : p.map (·.add 0) = p) (w : World) :
    (execOp a.eval op).run P w = .ok (.value (.slice p n n)) w := by
  obtain ⟨i, hi⟩ := he
  have h1 : (0 : Int) ≤ n ∧ (n : Int) ≤ c := by omega
  unfold execOp
  simp [ho, hx, hy, hz, Instr.sliceAt, Instr.slice, run_underlying ht, Instr.sliceBounds, Instr.sliceBound, asIntOf, h1, hn, sizeOf, typeInfo, hi, Result.andThen, hp]
theorem grow1 {P : Program} {t e : TypeId} {i : TypeInfo} {z : Value} {size bytes : Nat} (ht : P.underlying t = some (.slice e)) (hi : P.info? e = some i) (hz : i.zero = some z) (hs : i.size = size) (hby : i.bytes = bytes)
    {w : World} {p : Option Addr} {n : Nat} {olds news : List Value} (ho : CAt w p olds) (hol : olds.length = n * size) (hn : n ≤ 40) (hb : bytes ≤ 64) {b0 : Nat} (hnl : news.length = size) (hnew : w.rangeAt b0 0 news) (h1 : ∀ u ∈ news, u.oneCell' = true) :
    ∃ cap W', (∀ ty, (Builtin.append_ #[t, t] ty #[.slice p n n, .slice (some ⟨b0, 0, none⟩) 1 1]).run P w = .ok (.slice (some ⟨w.heap.size, 0, none⟩) (n + 1) cap) W') ∧ n + 1 ≤ cap ∧
      CAt W' (some ⟨w.heap.size, 0, none⟩) (olds ++ news) ∧ Below w.heap.size w W' ∧ W'.heap.size = w.heap.size + 1 ∧ W'.there w.heap.size 0 ((n + 1) * size) := by
  have hS : Src P i.size t (.slice (some ⟨b0, 0, none⟩) 1 1) 1 news w := Src.ofSlice w ht ⟨b0, 0, none⟩ 1 1 news (by rw [hnl, hs]; omega) (fun j u hj => by rw [Addr.add_mid]; exact hnew j u hj) h1
  have hold : (Builtin.firstCells i.size n (.slice p n n)).run P w.drew = .ok olds.toArray w.drew := by
    rcases ho with ⟨rfl, rfl⟩ | ⟨b, rfl, _, hr⟩
    · exact run_firstCells_none w.drew _ _ _ _
    · exact run_firstCells_some w.drew _ _ _ _ _ olds (by rw [hol, hs]) (fun j v hj => by rw [Addr.add_mid]; simpa using hr j v hj)
  have hm : (n + 1) * bytes ≤ 41 * 64 := Nat.mul_le_mul (by omega) hb
  have hrun := fun ty => run_append_grow_src (P := P) w t t ty e i z ht hi hz p n n olds hold (.slice (some ⟨b0, 0, none⟩) 1 1) 1 news hS (by omega) (by omega) (by rw [hby]; exact growslice_fits (by omega) (by omega))
  have hge := grownCap_ge w (n + 1) n e
  refine ⟨_, _, fun ty => hrun ty, hge, .inr ⟨_, rfl, by simp, ?_⟩, ((Below.refl _ _).drew).alloc (Nat.le_refl _) _, by simp, ?_⟩
  rotate_left
  · have hblk := heap_alloc_last w.drew (.cells ((olds ++ news).toArray ++ Builtin.zeroCells z.cells (grownCap w (n + 1) n e - (n + 1))) e)
    rw [show w.drew.heap.size = w.heap.size from rfl] at hblk
    have ht := there_row hblk rfl
    have hm2 : (n + 1) * size = n * size + size := Nat.succ_mul _ _
    intro j hj
    exact ht j (by simp only [Array.size_append, List.size_toArray, List.length_append, hol, hnl]; omega)
  have hblk := heap_alloc_last w.drew (.cells ((olds ++ news).toArray ++ Builtin.zeroCells z.cells (grownCap w (n + 1) n e - (n + 1))) e)
  rw [show w.drew.heap.size = w.heap.size from rfl] at hblk
  intro j v hj
  rw [Nat.zero_add, cell_of_row _ w.heap.size j _ _ _ hblk]
  have hjl := (List.getElem?_eq_some_iff.1 hj).1
  rw [Array.getElem?_append_left (by simpa using hjl)]
  simpa using hj
theorem app_op {P : Program} {op : Oper} {a : Act} {x y : Operand} {t : TypeId} {u v r : Value} {w w' : World} (ho : op.op = .call { callee := .builtin .append, args := #[x, y], argTypes := #[t, t] }) (hx : a.eval x = u) (hy : a.eval y = v)
    (hm : ∀ ty, (Builtin.append_ #[t, t] ty #[u, v]).run P w = .ok r w') : (execOp a.eval op).run P w = .ok (.value r) w' := by
  unfold execOp
  simp [ho, resolve, invoke, builtin, hx, hy, hm, Result.andThen]
theorem lastI {w : World} {p : Option Addr} {I : List Int} {i : Int} {b : Nat} {vs : List Value} (h : CAt w p (I.map (Value.int .i64) ++ [.int .i64 i])) (hb : ∀ g, p = some ⟨g, 0, none⟩ → g ≠ b) : CAt (w.setCells b 0 vs) p ((I ++ [i]).map (Value.int .i64)) := by
  rw [List.map_append]
  rcases h with ⟨_, h⟩ | ⟨g, h1, h2, h3⟩
  · simp at h
  · exact .inr ⟨g, h1, by rw [size_setCellsW]; exact h2, World.rangeAt_setCells_apart h3 _ _ _ (.inl (hb g h1))⟩
theorem lastP {w : World} {p : Option Addr} {L : List P3} {xo xc r : Int} {b : Nat} {vs : List Value} (h : CAt w p (plL L ++ [.int .i8 xo, .int .i8 xc, .int .i16 r])) (hb : ∀ g, p = some ⟨g, 0, none⟩ → g ≠ b) : CAt (w.setCells b 0 vs) p (plL (L ++ [(xo, xc, r)])) := by
  have e : plL (L ++ [(xo, xc, r)]) = plL L ++ [.int .i8 xo, .int .i8 xc, .int .i16 r] := by simp [plL, p3, Pm]
  rw [e]
  rcases h with ⟨_, h⟩ | ⟨g, h1, h2, h3⟩
  · simp at h
  · exact .inr ⟨g, h1, by rw [size_setCellsW]; exact h2, World.rangeAt_setCells_apart h3 _ _ _ (.inl (hb g h1))⟩
/-- A choice, as a value: the lists of its indices and of its permits. -/
def Chv (p1 : Option Addr) (c1 : Nat) (p2 : Option Addr) (c2 n : Nat) : Array Value := #[.slice p1 n c1, .slice p2 n c2]
/-- How a choice's lists lie. -/
def ChAt (w : World) (p1 p2 : Option Addr) (I : List Int) (L : List P3) : Prop := CAt w p1 (I.map (Value.int .i64)) ∧ CAt w p2 (plL L)
theorem ChAt.keep {w w' : World} {p1 p2 : Option Addr} {I : List Int} {L : List P3} (h : ChAt w p1 p2 I L) (hB : Below w.heap.size w w') : ChAt w' p1 p2 I L := ⟨h.1.keep hB, h.2.keep hB⟩
theorem with_boxes (p1 : Option Addr) (c1 : Nat) (p2 : Option Addr) (c2 n : Nat) (xo xc r : Int) (w : World) : ∃ W, ((w.alloc (.cells (Chv p1 c1 p2 c2 n) 108)).alloc (.cells (Pm xo xc r) 82)).alloc (.cells (Chv none 0 none 0 0) 108) = W ∧ W.heap.size = w.heap.size + 1 + 1 + 1 ∧ W.rangeAt w.heap.size 0 (Chv p1 c1 p2 c2 n).toList ∧ W.rangeAt (w.heap.size + 1) 0 (Pm xo xc r).toList ∧ W.there (w.heap.size + 1 + 1) 0 2 ∧ Below w.heap.size w W := by
  have h1 : (w.alloc (.cells (Chv p1 c1 p2 c2 n) 108)).heap.size = w.heap.size + 1 := by simp
  have h2 : ((w.alloc (.cells (Chv p1 c1 p2 c2 n) 108)).alloc (.cells (Pm xo xc r) 82)).heap.size = w.heap.size + 1 + 1 := by simp
  refine ⟨_, rfl, by simp, World.rangeAt_alloc (World.rangeAt_alloc (rangeAt_row (heap_alloc_last w _)) _) _, ?_, ?_, ((((Below.refl _ _).alloc (Nat.le_refl _) _).alloc (by simp) _).alloc (by simp; omega) _)⟩
  · have h := rangeAt_row (heap_alloc_last (w.alloc (.cells (Chv p1 c1 p2 c2 n) 108)) (.cells (Pm xo xc r) 82))
    rw [h1] at h
    exact World.rangeAt_alloc h _
  · have h := there_row (n := 2) (heap_alloc_last ((w.alloc (.cells (Chv p1 c1 p2 c2 n) 108)).alloc (.cells (Pm xo xc r) 82)) (.cells (Chv none 0 none 0 0) 108)) rfl
    rwa [h2] at h
set_option maxRecDepth 100000 in
set_option maxHeartbeats 2000000 in
theorem with_any (p1 : Option Addr) (c1 : Nat) (p2 : Option Addr) (c2 n : Nat) (I : List Int) (L : List P3) (i xo xc r : Int) (hI : I.length = n) (hL : L.length = n) (hn : n ≤ 40) (h1 : n ≤ c1) (h2 : n ≤ c2) (w : World) (hc : ChAt w p1 p2 I L) :
    Calls Tryz.prog 67 #[.agg (Chv p1 c1 p2 c2 n), .int .i64 i, .agg (Pm xo xc r)] w fun e w' => ∃ g1 d1 g2 d2, e = .returned (.agg (Chv (some ⟨g1, 0, none⟩) d1 (some ⟨g2, 0, none⟩) d2 (n + 1))) ∧ n + 1 ≤ d1 ∧ n + 1 ≤ d2 ∧ w.heap.size ≤ g1 ∧ w.heap.size ≤ g2 ∧ ChAt w' (some ⟨g1, 0, none⟩) (some ⟨g2, 0, none⟩) (I ++ [i]) (L ++ [(xo, xc, r)]) ∧ Below w.heap.size w w' ∧ w'.there g1 0 (n + 1) := by
  obtain ⟨W, hW, hs, hr1, hr2, ht, hB⟩ := with_boxes p1 c1 p2 c2 n xo xc r w
  have HI := Lib.hid (hc.1.keep hB)
  have HP := Lib.hid (hc.2.keep hB)
  have HB := Lib.hid hB
  obtain ⟨b3, hb3⟩ : ∃ b3, w.heap.size = b3 := ⟨_, rfl⟩
  go_enter Tryz.func67, Tryz.ntmps67
  go_upto_region 1 with (fail)
  have hW' : ((w.alloc (.cells #[.slice p1 n c1, .slice p2 n c2] 108)).alloc (.cells #[.int .i8 xo, .int .i8 xc, .int .i16 r] 82)).alloc (.cells #[.slice none 0 0, .slice none 0 0] 108) = W := hW
  simp only [Chv, Pm] at *
  try rw [hW]
  try rw [hW']
  clear hW hW'
  have k0 : W.cell? ⟨b3, 0, none⟩ = some (.slice p1 n c1) := by have := hr1 0 _ rfl; rw [hb3] at this; exact this
  have k1 : W.cell? ⟨b3, 1, none⟩ = some (.slice p2 n c2) := by have := hr1 1 _ rfl; rw [hb3] at this; exact this
  rw [hb3] at hr2 ht hs
  have HS := Lib.hid hs
  have HR := Lib.hid (fun V (h : Below (b3 + 1 + 1) W V) => range_kept hr2 (by omega) V h)
  have HTH := Lib.hid (fun V (h : Below W.heap.size W V) => there_below ht h (by omega))
  have K0 := Lib.hid (fun V (h : Below (b3 + 1 + 1) W V) => (h.cell (p := ⟨b3, 0, none⟩) (show b3 < b3 + 1 + 1 by omega)).trans k0)
  have K1 := Lib.hid (fun V (h : Below (b3 + 1 + 1) W V) => (h.cell (p := ⟨b3, 1, none⟩) (show b3 < b3 + 1 + 1 by omega)).trans k1)
  clear hr1 hr2 ht hs hB hc k1
  have hf1 := HI.out.form
  have hf2 := HP.out.form
  obtain ⟨j1, hj1, hz1, hs1, hby1⟩ := info_parts (P := Tryz.prog) (e := 2) (z := .int .i64 0) (size := 1) (bytes := 8) (by kernel_rfl)
  obtain ⟨j2, hj2, hz2, hs2, hby2⟩ := info_parts (P := Tryz.prog) (e := 82) (z := .agg (Pm 0 0 0)) (size := 3) (bytes := 4) (by kernel_rfl)
  go_upto_region 2 with (fail)
  clear k0
  refine wp_region_plan (ops' := regOf Tryz.f67 2) (.take 0 (.take 1 (.take 2 (.take 3 (.take 4 (.take 5 (.take 8 (.take 9 (.take 10 (.take 11 (.take 12 (.take 13 (.two 6 14 (.two 7 14 (.run 14 (.run 15 (.take 16 (.run 17 .fin)))) (.run 7 (.run 15 (.take 16 (.run 17 .fin))))) (.run 6 (.run 7 (.run 15 (.take 16 (.run 17 .fin)))))))))))))))))) (fun V => Below (b3 + 1 + 1) W V) (by kernel_rfl) (by kernel_rfl) (by kernel_rfl) (by kernel_rfl) (by kernel_rfl) ((Below.refl _ _).drew) ?_
  refine plan_pure (some 11) (.pointer (some ⟨b3, 0, none⟩)) (by kernel_rfl) (by kernel_rfl) (by kernel_rfl) (fun _ => (by kernel_rfl)) ?_
  refine plan_take (some 12) (.slice p1 n c1) (by kernel_rfl) (by kernel_rfl) (.inl ⟨(by kernel_rfl), fun w' hw' => load_cell (ty := 62) (x := .tmp 11) (b := b3) (o := 0) (by kernel_rfl) (by kernel_rfl) Tryz.underlying62 rfl (K0.out w' hw')⟩) ?_
  refine plan_pure (some 13) (.int .i64 (n : Int)) (by kernel_rfl) (by kernel_rfl) (by kernel_rfl) (fun _ => (by kernel_rfl)) ?_
  refine plan_pure (some 14) (.int .i64 (n : Int)) (by kernel_rfl) (by kernel_rfl) (by kernel_rfl) (fun _ => (by kernel_rfl)) ?_
  refine plan_pure (some 15) (.slice p1 n n) (by kernel_rfl) (by kernel_rfl) (by kernel_rfl) (fun w' => sl3_op (t := 62) (x := .tmp 12) (y := .tmp 13) (z := .tmp 14) (by kernel_rfl) Tryz.underlying62 ⟨_, hj1⟩ (by kernel_rfl) (by kernel_rfl) (by kernel_rfl) h1 hf1 w') ?_
  refine plan_pure (some 16) (.int .i64 i) (by kernel_rfl) (by kernel_rfl) (by kernel_rfl) (fun _ => (by kernel_rfl)) ?_
  refine plan_pure (some 19) (.pointer (some ⟨b3, 1, none⟩)) (by kernel_rfl) (by kernel_rfl) (by kernel_rfl) (fun _ => (by kernel_rfl)) ?_
  refine plan_take (some 20) (.slice p2 n c2) (by kernel_rfl) (by kernel_rfl) (.inl ⟨(by kernel_rfl), fun w' hw' => load_cell (ty := 43) (x := .tmp 19) (b := b3) (o := 1) (by kernel_rfl) (by kernel_rfl) Tryz.underlying43 rfl (K1.out w' hw')⟩) ?_
  refine plan_pure (some 21) (.int .i64 (n : Int)) (by kernel_rfl) (by kernel_rfl) (by kernel_rfl) (fun _ => (by kernel_rfl)) ?_
  refine plan_pure (some 22) (.int .i64 (n : Int)) (by kernel_rfl) (by kernel_rfl) (by kernel_rfl) (fun _ => (by kernel_rfl)) ?_
  refine plan_pure (some 23) (.slice p2 n n) (by kernel_rfl) (by kernel_rfl) (by kernel_rfl) (fun w' => sl3_op (t := 43) (x := .tmp 20) (y := .tmp 21) (z := .tmp 22) (by kernel_rfl) Tryz.underlying43 ⟨_, hj2⟩ (by kernel_rfl) (by kernel_rfl) (by kernel_rfl) h2 hf2 w') ?_
  refine plan_load (some 24) 82 (.tmp 5) (b3 + 1) 0 [.int .i8 xo, .int .i8 xc, .int .i16 r] _ (by kernel_rfl) (by kernel_rfl) (by kernel_rfl) (by kernel_rfl) (by kernel_rfl) (fun w' hw' => HR.out w' hw') Tryz.underlying82 rfl (by kernel_rfl) ?_
  have hB0 : Below W.heap.size W W.drew := (Below.refl _ _).drew
  have lS : b3 + 1 + 1 < W.heap.size := by have := HS.out; omega
  refine plan_two ?_ ?_
  · obtain ⟨V64, e64, z64, r64, q64⟩ := one_box #[.int .i64 i] 2 W.drew
    have hB64 := hB0.trans (q64.mono hB0.size)
    refine plan_do (some 17) (.slice (some ⟨W.drew.heap.size, 0, none⟩) 1 1) V64 (by kernel_rfl) (by kernel_rfl) (by kernel_rfl) (.inl (by rw [← e64]; kernel_rfl)) (hB64.mono (by omega)) ?_
    have l6c64 : W.drew.heap.size < V64.heap.size := by omega
    refine plan_two ?_ ?_
    · obtain ⟨cap76, V76, m76, hc76, ca76, q76, z76, th76⟩ := grow1 (t := 62) Tryz.underlying62 hj1 hz1 hs1 hby1 (HI.out.keep hB64) (by rw [List.length_map, hI, Nat.mul_one]) hn (by omega) (news := [.int .i64 i]) rfl r64 (by intro u hu; simp at hu; rcases hu with rfl <;> rfl)
      have hB76 := hB64.trans (q76.mono hB64.size)
      refine plan_do (some 18) (.slice (some ⟨V64.heap.size, 0, none⟩) (n + 1) cap76) V76 (by kernel_rfl) (by kernel_rfl) (by kernel_rfl) (.inl (app_op (t := 62) (x := .tmp 15) (y := .tmp 17) (by kernel_rfl) (by kernel_rfl) (by kernel_rfl) m76)) (hB76.mono (by omega)) ?_
      have lo176 : W.heap.size ≤ V64.heap.size := hB64.size
      have lg76 : V64.heap.size < V76.heap.size := by omega
      have r6c76 := range_kept r64 (by have := l6c64; omega) _ q76
      have l6c76 := Nat.lt_of_lt_of_le l6c64 q76.size
      obtain ⟨V146, e146, z146, r146, q146⟩ := one_box #[.int .i8 xo, .int .i8 xc, .int .i16 r] 82 V76
      have hB146 := hB76.trans (q146.mono hB76.size)
      refine plan_do (some 25) (.slice (some ⟨V76.heap.size, 0, none⟩) 1 1) V146 (by kernel_rfl) (by kernel_rfl) (by kernel_rfl) (.inl (by rw [← e146]; kernel_rfl)) (hB146.mono (by omega)) ?_
      have r6c146 := range_kept r6c76 (by have := l6c76; omega) _ q146
      have l6c146 := Nat.lt_of_lt_of_le l6c76 q146.size
      have l14c146 : V76.heap.size < V146.heap.size := by omega
      have th1c146 := there_below th76 q146 lg76
      have lg1c146 := Nat.lt_of_lt_of_le lg76 q146.size
      have ca1c146 := CAt.keep ca76 q146
      obtain ⟨cap156, V156, m156, hc156, ca156, q156, z156, th156⟩ := grow1 (t := 43) Tryz.underlying43 hj2 hz2 hs2 hby2 (HP.out.keep hB146) (by rw [plL_len, hL]) hn (by omega) (news := [.int .i8 xo, .int .i8 xc, .int .i16 r]) rfl r146 (by intro u hu; simp at hu; rcases hu with rfl | rfl | rfl <;> rfl)
      have hB156 := hB146.trans (q156.mono hB146.size)
      refine plan_do (some 26) (.slice (some ⟨V146.heap.size, 0, none⟩) (n + 1) cap156) V156 (by kernel_rfl) (by kernel_rfl) (by kernel_rfl) (.inl (app_op (t := 43) (x := .tmp 23) (y := .tmp 25) (by kernel_rfl) (by kernel_rfl) (by kernel_rfl) m156)) (hB156.mono (by omega)) ?_
      have lo2156 : W.heap.size ≤ V146.heap.size := hB146.size
      have r6c156 := range_kept r6c146 (by have := l6c146; omega) _ q156
      have l6c156 := Nat.lt_of_lt_of_le l6c146 q156.size
      have r14c156 := range_kept r146 (by have := l14c146; omega) _ q156
      have l14c156 := Nat.lt_of_lt_of_le l14c146 q156.size
      have th1c156 := there_below th1c146 q156 lg1c146
      have lg1c156 := Nat.lt_of_lt_of_le lg1c146 q156.size
      have ca1c156 := CAt.keep ca1c146 q156
      refine plan_pure (some 27) (.agg #[.slice (some ⟨V64.heap.size, 0, none⟩) (n + 1) cap76, .slice (some ⟨V146.heap.size, 0, none⟩) (n + 1) cap156]) (by kernel_rfl) (by kernel_rfl) (by kernel_rfl) (fun _ => (by kernel_rfl)) ?_
      have ht6 := HTH.out _ hB156
      refine plan_do none undef (V156.setCells (b3 + 1 + 1) 0 [.slice (some ⟨V64.heap.size, 0, none⟩) (n + 1) cap76, .slice (some ⟨V146.heap.size, 0, none⟩) (n + 1) cap156]) (by kernel_rfl) (by kernel_rfl) (by kernel_rfl) (.inr ⟨store_op (ty := 108) (cs := #[.slice (some ⟨V64.heap.size, 0, none⟩) (n + 1) cap76, .slice (some ⟨V146.heap.size, 0, none⟩) (n + 1) cap156]) (x := .tmp 6) (y := .tmp 27) (by kernel_rfl) (by kernel_rfl) (by kernel_rfl) (by exact ht6) (by kernel_rfl) (by kernel_rfl), rfl⟩) (below_setCells _ (Nat.le_refl _) _ _ _ (hB156.mono (by omega))) ?_
      refine plan_end (NoPanic.normal ?_)
      simp only [Act.put, List.setIfInBounds_toArray, List.set_cons_zero, List.set_cons_succ]
      have hr := World.rangeAt_setCells_same V156 (b3 + 1 + 1) 0 [.slice (some ⟨V64.heap.size, 0, none⟩) (n + 1) cap76, .slice (some ⟨V146.heap.size, 0, none⟩) (n + 1) cap156] ht6
      have li := lastI (b := b3 + 1 + 1) (vs := [.slice (some ⟨V64.heap.size, 0, none⟩) (n + 1) cap76, .slice (some ⟨V146.heap.size, 0, none⟩) (n + 1) cap156]) ca1c156 (fun g hg => by cases hg; have h5 := lo176; omega)
      have lp := lastP (b := b3 + 1 + 1) (vs := [.slice (some ⟨V64.heap.size, 0, none⟩) (n + 1) cap76, .slice (some ⟨V146.heap.size, 0, none⟩) (n + 1) cap156]) ca156 (fun g hg => by cases hg; have h5 := lo2156; omega)
      have lb := below_setCells (B := w.heap.size) (b3 + 1 + 1) (by omega) [.slice (some ⟨V64.heap.size, 0, none⟩) (n + 1) cap76, .slice (some ⟨V146.heap.size, 0, none⟩) (n + 1) cap156] 0 V156 (HB.out.trans (hB156.mono HB.out.size))
      have lt := World.there_setCells th1c156 (b3 + 1 + 1) 0 [.slice (some ⟨V64.heap.size, 0, none⟩) (n + 1) cap76, .slice (some ⟨V146.heap.size, 0, none⟩) (n + 1) cap156]
      rw [Nat.mul_one] at lt
      obtain ⟨Z, hZ⟩ : ∃ Z, V156.setCells (b3 + 1 + 1) 0 [.slice (some ⟨V64.heap.size, 0, none⟩) (n + 1) cap76, .slice (some ⟨V146.heap.size, 0, none⟩) (n + 1) cap156] = Z := ⟨_, rfl⟩
      rw [hZ] at hr li lp lb lt ⊢
      clear hZ
      go_wp2
      refine bodyPost_ret (results_cell_mid rfl _ _ _ 0 [.slice (some ⟨V64.heap.size, 0, none⟩) (n + 1) cap76, .slice (some ⟨V146.heap.size, 0, none⟩) (n + 1) cap156] _ rfl hr Tryz.underlying108 rfl (by kernel_rfl)) rfl ⟨_, _, _, _, rfl, hc76, hc156, (by first | exact Nat.le_trans HB.out.size lo176 | (rw [← hb3]; exact Nat.le_trans HB.out.size lo176)), (by first | exact Nat.le_trans HB.out.size lo2156 | (rw [← hb3]; exact Nat.le_trans HB.out.size lo2156)), ⟨li, lp⟩, ?_, lt⟩
      first | exact lb | (rw [← hb3]; exact lb)
    · obtain ⟨V146, e146, z146, r146, q146⟩ := one_box #[.int .i8 xo, .int .i8 xc, .int .i16 r] 82 V64
      have hB146 := hB64.trans (q146.mono hB64.size)
      refine plan_do (some 25) (.slice (some ⟨V64.heap.size, 0, none⟩) 1 1) V146 (by kernel_rfl) (by kernel_rfl) (by kernel_rfl) (.inl (by rw [← e146]; kernel_rfl)) (hB146.mono (by omega)) ?_
      have r6c146 := range_kept r64 (by have := l6c64; omega) _ q146
      have l6c146 := Nat.lt_of_lt_of_le l6c64 q146.size
      have l14c146 : V64.heap.size < V146.heap.size := by omega
      obtain ⟨cap76, V76, m76, hc76, ca76, q76, z76, th76⟩ := grow1 (t := 62) Tryz.underlying62 hj1 hz1 hs1 hby1 (HI.out.keep hB146) (by rw [List.length_map, hI, Nat.mul_one]) hn (by omega) (news := [.int .i64 i]) rfl r6c146 (by intro u hu; simp at hu; rcases hu with rfl <;> rfl)
      have hB76 := hB146.trans (q76.mono hB146.size)
      refine plan_do (some 18) (.slice (some ⟨V146.heap.size, 0, none⟩) (n + 1) cap76) V76 (by kernel_rfl) (by kernel_rfl) (by kernel_rfl) (.inl (app_op (t := 62) (x := .tmp 15) (y := .tmp 17) (by kernel_rfl) (by kernel_rfl) (by kernel_rfl) m76)) (hB76.mono (by omega)) ?_
      have lo176 : W.heap.size ≤ V146.heap.size := hB146.size
      have lg76 : V146.heap.size < V76.heap.size := by omega
      have r6c76 := range_kept r6c146 (by have := l6c146; omega) _ q76
      have l6c76 := Nat.lt_of_lt_of_le l6c146 q76.size
      have r14c76 := range_kept r146 (by have := l14c146; omega) _ q76
      have l14c76 := Nat.lt_of_lt_of_le l14c146 q76.size
      obtain ⟨cap156, V156, m156, hc156, ca156, q156, z156, th156⟩ := grow1 (t := 43) Tryz.underlying43 hj2 hz2 hs2 hby2 (HP.out.keep hB76) (by rw [plL_len, hL]) hn (by omega) (news := [.int .i8 xo, .int .i8 xc, .int .i16 r]) rfl r14c76 (by intro u hu; simp at hu; rcases hu with rfl | rfl | rfl <;> rfl)
      have hB156 := hB76.trans (q156.mono hB76.size)
      refine plan_do (some 26) (.slice (some ⟨V76.heap.size, 0, none⟩) (n + 1) cap156) V156 (by kernel_rfl) (by kernel_rfl) (by kernel_rfl) (.inl (app_op (t := 43) (x := .tmp 23) (y := .tmp 25) (by kernel_rfl) (by kernel_rfl) (by kernel_rfl) m156)) (hB156.mono (by omega)) ?_
      have lo2156 : W.heap.size ≤ V76.heap.size := hB76.size
      have r6c156 := range_kept r6c76 (by have := l6c76; omega) _ q156
      have l6c156 := Nat.lt_of_lt_of_le l6c76 q156.size
      have r14c156 := range_kept r14c76 (by have := l14c76; omega) _ q156
      have l14c156 := Nat.lt_of_lt_of_le l14c76 q156.size
      have th1c156 := there_below th76 q156 lg76
      have lg1c156 := Nat.lt_of_lt_of_le lg76 q156.size
      have ca1c156 := CAt.keep ca76 q156
      refine plan_pure (some 27) (.agg #[.slice (some ⟨V146.heap.size, 0, none⟩) (n + 1) cap76, .slice (some ⟨V76.heap.size, 0, none⟩) (n + 1) cap156]) (by kernel_rfl) (by kernel_rfl) (by kernel_rfl) (fun _ => (by kernel_rfl)) ?_
      have ht6 := HTH.out _ hB156
      refine plan_do none undef (V156.setCells (b3 + 1 + 1) 0 [.slice (some ⟨V146.heap.size, 0, none⟩) (n + 1) cap76, .slice (some ⟨V76.heap.size, 0, none⟩) (n + 1) cap156]) (by kernel_rfl) (by kernel_rfl) (by kernel_rfl) (.inr ⟨store_op (ty := 108) (cs := #[.slice (some ⟨V146.heap.size, 0, none⟩) (n + 1) cap76, .slice (some ⟨V76.heap.size, 0, none⟩) (n + 1) cap156]) (x := .tmp 6) (y := .tmp 27) (by kernel_rfl) (by kernel_rfl) (by kernel_rfl) (by exact ht6) (by kernel_rfl) (by kernel_rfl), rfl⟩) (below_setCells _ (Nat.le_refl _) _ _ _ (hB156.mono (by omega))) ?_
      refine plan_end (NoPanic.normal ?_)
      simp only [Act.put, List.setIfInBounds_toArray, List.set_cons_zero, List.set_cons_succ]
      have hr := World.rangeAt_setCells_same V156 (b3 + 1 + 1) 0 [.slice (some ⟨V146.heap.size, 0, none⟩) (n + 1) cap76, .slice (some ⟨V76.heap.size, 0, none⟩) (n + 1) cap156] ht6
      have li := lastI (b := b3 + 1 + 1) (vs := [.slice (some ⟨V146.heap.size, 0, none⟩) (n + 1) cap76, .slice (some ⟨V76.heap.size, 0, none⟩) (n + 1) cap156]) ca1c156 (fun g hg => by cases hg; have h5 := lo176; omega)
      have lp := lastP (b := b3 + 1 + 1) (vs := [.slice (some ⟨V146.heap.size, 0, none⟩) (n + 1) cap76, .slice (some ⟨V76.heap.size, 0, none⟩) (n + 1) cap156]) ca156 (fun g hg => by cases hg; have h5 := lo2156; omega)
      have lb := below_setCells (B := w.heap.size) (b3 + 1 + 1) (by omega) [.slice (some ⟨V146.heap.size, 0, none⟩) (n + 1) cap76, .slice (some ⟨V76.heap.size, 0, none⟩) (n + 1) cap156] 0 V156 (HB.out.trans (hB156.mono HB.out.size))
      have lt := World.there_setCells th1c156 (b3 + 1 + 1) 0 [.slice (some ⟨V146.heap.size, 0, none⟩) (n + 1) cap76, .slice (some ⟨V76.heap.size, 0, none⟩) (n + 1) cap156]
      rw [Nat.mul_one] at lt
      obtain ⟨Z, hZ⟩ : ∃ Z, V156.setCells (b3 + 1 + 1) 0 [.slice (some ⟨V146.heap.size, 0, none⟩) (n + 1) cap76, .slice (some ⟨V76.heap.size, 0, none⟩) (n + 1) cap156] = Z := ⟨_, rfl⟩
      rw [hZ] at hr li lp lb lt ⊢
      clear hZ
      go_wp2
      refine bodyPost_ret (results_cell_mid rfl _ _ _ 0 [.slice (some ⟨V146.heap.size, 0, none⟩) (n + 1) cap76, .slice (some ⟨V76.heap.size, 0, none⟩) (n + 1) cap156] _ rfl hr Tryz.underlying108 rfl (by kernel_rfl)) rfl ⟨_, _, _, _, rfl, hc76, hc156, (by first | exact Nat.le_trans HB.out.size lo176 | (rw [← hb3]; exact Nat.le_trans HB.out.size lo176)), (by first | exact Nat.le_trans HB.out.size lo2156 | (rw [← hb3]; exact Nat.le_trans HB.out.size lo2156)), ⟨li, lp⟩, ?_, lt⟩
      first | exact lb | (rw [← hb3]; exact lb)
  · obtain ⟨V144, e144, z144, r144, q144⟩ := one_box #[.int .i8 xo, .int .i8 xc, .int .i16 r] 82 W.drew
    have hB144 := hB0.trans (q144.mono hB0.size)
    refine plan_do (some 25) (.slice (some ⟨W.drew.heap.size, 0, none⟩) 1 1) V144 (by kernel_rfl) (by kernel_rfl) (by kernel_rfl) (.inl (by rw [← e144]; kernel_rfl)) (hB144.mono (by omega)) ?_
    have l14c144 : W.drew.heap.size < V144.heap.size := by omega
    obtain ⟨V64, e64, z64, r64, q64⟩ := one_box #[.int .i64 i] 2 V144
    have hB64 := hB144.trans (q64.mono hB144.size)
    refine plan_do (some 17) (.slice (some ⟨V144.heap.size, 0, none⟩) 1 1) V64 (by kernel_rfl) (by kernel_rfl) (by kernel_rfl) (.inl (by rw [← e64]; kernel_rfl)) (hB64.mono (by omega)) ?_
    have l6c64 : V144.heap.size < V64.heap.size := by omega
    have r14c64 := range_kept r144 (by have := l14c144; omega) _ q64
    have l14c64 := Nat.lt_of_lt_of_le l14c144 q64.size
    obtain ⟨cap74, V74, m74, hc74, ca74, q74, z74, th74⟩ := grow1 (t := 62) Tryz.underlying62 hj1 hz1 hs1 hby1 (HI.out.keep hB64) (by rw [List.length_map, hI, Nat.mul_one]) hn (by omega) (news := [.int .i64 i]) rfl r64 (by intro u hu; simp at hu; rcases hu with rfl <;> rfl)
    have hB74 := hB64.trans (q74.mono hB64.size)
    refine plan_do (some 18) (.slice (some ⟨V64.heap.size, 0, none⟩) (n + 1) cap74) V74 (by kernel_rfl) (by kernel_rfl) (by kernel_rfl) (.inl (app_op (t := 62) (x := .tmp 15) (y := .tmp 17) (by kernel_rfl) (by kernel_rfl) (by kernel_rfl) m74)) (hB74.mono (by omega)) ?_
    have lo174 : W.heap.size ≤ V64.heap.size := hB64.size
    have lg74 : V64.heap.size < V74.heap.size := by omega
    have r6c74 := range_kept r64 (by have := l6c64; omega) _ q74
    have l6c74 := Nat.lt_of_lt_of_le l6c64 q74.size
    have r14c74 := range_kept r14c64 (by have := l14c64; omega) _ q74
    have l14c74 := Nat.lt_of_lt_of_le l14c64 q74.size
    obtain ⟨cap154, V154, m154, hc154, ca154, q154, z154, th154⟩ := grow1 (t := 43) Tryz.underlying43 hj2 hz2 hs2 hby2 (HP.out.keep hB74) (by rw [plL_len, hL]) hn (by omega) (news := [.int .i8 xo, .int .i8 xc, .int .i16 r]) rfl r14c74 (by intro u hu; simp at hu; rcases hu with rfl | rfl | rfl <;> rfl)
    have hB154 := hB74.trans (q154.mono hB74.size)
    refine plan_do (some 26) (.slice (some ⟨V74.heap.size, 0, none⟩) (n + 1) cap154) V154 (by kernel_rfl) (by kernel_rfl) (by kernel_rfl) (.inl (app_op (t := 43) (x := .tmp 23) (y := .tmp 25) (by kernel_rfl) (by kernel_rfl) (by kernel_rfl) m154)) (hB154.mono (by omega)) ?_
    have lo2154 : W.heap.size ≤ V74.heap.size := hB74.size
    have r6c154 := range_kept r6c74 (by have := l6c74; omega) _ q154
    have l6c154 := Nat.lt_of_lt_of_le l6c74 q154.size
    have r14c154 := range_kept r14c74 (by have := l14c74; omega) _ q154
    have l14c154 := Nat.lt_of_lt_of_le l14c74 q154.size
    have th1c154 := there_below th74 q154 lg74
    have lg1c154 := Nat.lt_of_lt_of_le lg74 q154.size
    have ca1c154 := CAt.keep ca74 q154
    refine plan_pure (some 27) (.agg #[.slice (some ⟨V64.heap.size, 0, none⟩) (n + 1) cap74, .slice (some ⟨V74.heap.size, 0, none⟩) (n + 1) cap154]) (by kernel_rfl) (by kernel_rfl) (by kernel_rfl) (fun _ => (by kernel_rfl)) ?_
    have ht4 := HTH.out _ hB154
    refine plan_do none undef (V154.setCells (b3 + 1 + 1) 0 [.slice (some ⟨V64.heap.size, 0, none⟩) (n + 1) cap74, .slice (some ⟨V74.heap.size, 0, none⟩) (n + 1) cap154]) (by kernel_rfl) (by kernel_rfl) (by kernel_rfl) (.inr ⟨store_op (ty := 108) (cs := #[.slice (some ⟨V64.heap.size, 0, none⟩) (n + 1) cap74, .slice (some ⟨V74.heap.size, 0, none⟩) (n + 1) cap154]) (x := .tmp 6) (y := .tmp 27) (by kernel_rfl) (by kernel_rfl) (by kernel_rfl) (by exact ht4) (by kernel_rfl) (by kernel_rfl), rfl⟩) (below_setCells _ (Nat.le_refl _) _ _ _ (hB154.mono (by omega))) ?_
    refine plan_end (NoPanic.normal ?_)
    simp only [Act.put, List.setIfInBounds_toArray, List.set_cons_zero, List.set_cons_succ]
    have hr := World.rangeAt_setCells_same V154 (b3 + 1 + 1) 0 [.slice (some ⟨V64.heap.size, 0, none⟩) (n + 1) cap74, .slice (some ⟨V74.heap.size, 0, none⟩) (n + 1) cap154] ht4
    have li := lastI (b := b3 + 1 + 1) (vs := [.slice (some ⟨V64.heap.size, 0, none⟩) (n + 1) cap74, .slice (some ⟨V74.heap.size, 0, none⟩) (n + 1) cap154]) ca1c154 (fun g hg => by cases hg; have h5 := lo174; omega)
    have lp := lastP (b := b3 + 1 + 1) (vs := [.slice (some ⟨V64.heap.size, 0, none⟩) (n + 1) cap74, .slice (some ⟨V74.heap.size, 0, none⟩) (n + 1) cap154]) ca154 (fun g hg => by cases hg; have h5 := lo2154; omega)
    have lb := below_setCells (B := w.heap.size) (b3 + 1 + 1) (by omega) [.slice (some ⟨V64.heap.size, 0, none⟩) (n + 1) cap74, .slice (some ⟨V74.heap.size, 0, none⟩) (n + 1) cap154] 0 V154 (HB.out.trans (hB154.mono HB.out.size))
    have lt := World.there_setCells th1c154 (b3 + 1 + 1) 0 [.slice (some ⟨V64.heap.size, 0, none⟩) (n + 1) cap74, .slice (some ⟨V74.heap.size, 0, none⟩) (n + 1) cap154]
    rw [Nat.mul_one] at lt
    obtain ⟨Z, hZ⟩ : ∃ Z, V154.setCells (b3 + 1 + 1) 0 [.slice (some ⟨V64.heap.size, 0, none⟩) (n + 1) cap74, .slice (some ⟨V74.heap.size, 0, none⟩) (n + 1) cap154] = Z := ⟨_, rfl⟩
    rw [hZ] at hr li lp lb lt ⊢
    clear hZ
    go_wp2
    refine bodyPost_ret (results_cell_mid rfl _ _ _ 0 [.slice (some ⟨V64.heap.size, 0, none⟩) (n + 1) cap74, .slice (some ⟨V74.heap.size, 0, none⟩) (n + 1) cap154] _ rfl hr Tryz.underlying108 rfl (by kernel_rfl)) rfl ⟨_, _, _, _, rfl, hc74, hc154, (by first | exact Nat.le_trans HB.out.size lo174 | (rw [← hb3]; exact Nat.le_trans HB.out.size lo174)), (by first | exact Nat.le_trans HB.out.size lo2154 | (rw [← hb3]; exact Nat.le_trans HB.out.size lo2154)), ⟨li, lp⟩, ?_, lt⟩
    first | exact lb | (rw [← hb3]; exact lb)
/-- All of a list. -/
def iotaI (k : Nat) : List Int := (List.range k).map fun (j : Nat) => (j : Int)
theorem iotaI_succ (k : Nat) : iotaI (k + 1) = iotaI k ++ [(k : Int)] := by simp [iotaI, List.range_succ]
theorem iotaI_len (k : Nat) : (iotaI k).length = k := by simp [iotaI]
theorem CAt.set {w : World} {p : Option Addr} {cs vs : List Value} {b : Nat} (h : CAt w p cs) (hb : ∀ g, p = some ⟨g, 0, none⟩ → g ≠ b) : CAt (w.setCells b 0 vs) p cs := by
  rcases h with h | ⟨g, h1, h2, h3⟩
  · exact .inl h
  · exact .inr ⟨g, h1, by rw [size_setCellsW]; exact h2, World.rangeAt_setCells_apart h3 _ _ _ (.inl (hb g h1))⟩
theorem ch_boxes (w : World) : ∃ W, (w.alloc (.cells (Chv none 0 none 0 0) 108)).alloc (.cells (Chv none 0 none 0 0) 108) = W ∧ W.heap.size = w.heap.size + 1 + 1 ∧ W.there w.heap.size 0 2 ∧ W.there (w.heap.size + 1) 0 2 ∧ W.rangeAt (w.heap.size + 1) 0 (Chv none 0 none 0 0).toList ∧ Below w.heap.size w W := by
  have h1 : (w.alloc (.cells (Chv none 0 none 0 0) 108)).heap.size = w.heap.size + 1 := by simp
  refine ⟨_, rfl, by simp, World.there_alloc (there_row (n := 2) (heap_alloc_last w _) rfl) _, ?_, ?_, ((Below.refl _ _).alloc (Nat.le_refl _) _).alloc (by simp) _⟩
  · have h := there_row (n := 2) (heap_alloc_last (w.alloc (.cells (Chv none 0 none 0 0) 108)) (.cells (Chv none 0 none 0 0) 108)) rfl
    rwa [h1] at h
  · have h := rangeAt_row (heap_alloc_last (w.alloc (.cells (Chv none 0 none 0 0) 108)) (.cells (Chv none 0 none 0 0) 108))
    rwa [h1] at h
set_option maxRecDepth 100000 in
set_option maxHeartbeats 2000000 in
theorem choiceOfAll_any (p : Option Addr) (c : Nat) (L : List P3) (hL : L.length ≤ 40) (w : World) (hp : PsAt w p L) :
    Calls Tryz.prog 77 #[.slice p L.length c] w fun e w' => ∃ q1 d1 q2 d2, e = .returned (.agg (Chv q1 d1 q2 d2 L.length)) ∧ L.length ≤ d1 ∧ L.length ≤ d2 ∧ ChAt w' q1 q2 (iotaI L.length) L ∧ Below w.heap.size w w' := by
  have PP0 := Lib.hid hp
  obtain ⟨n, hn⟩ : ∃ n, L.length = n := ⟨_, rfl⟩
  have HN := Lib.hid hn
  rw [hn] at hL ⊢
  clear hp
  go_enter Tryz.func77, Tryz.ntmps77
  go_upto_region 2 with (fail)
  obtain ⟨W, hW, hs, t2, t3, r3, hB⟩ := ch_boxes w
  have PP := Lib.hid (PP0.out.keep hB)
  have hW' : (w.alloc (.cells #[.slice none 0 0, .slice none 0 0] 108)).alloc (.cells #[.slice none 0 0, .slice none 0 0] 108) = W := hW
  obtain ⟨b2, hb2⟩ : ∃ b2, w.heap.size = b2 := ⟨_, rfl⟩
  have HB2 := Lib.hid hb2
  have HS := Lib.hid hs
  rw [hb2] at t2 t3 r3
  try simp only [hb2]
  try rw [hW']
  have T2 := Lib.hid t2
  have T3 := Lib.hid t3
  have R3 := Lib.hid r3
  have HBW := Lib.hid (show Below b2 w W by rw [hb2] at hB; exact hB)
  clear hW hW' t2 t3 r3 hn hs
  go_wp2
  go_loopw [9] (fun i wr => ∃ (k d1 d2 : Nat) (q1 q2 : Option Addr), k ≤ n ∧ i = .int .i64 k ∧ Hid (k ≤ d1 ∧ k ≤ d2) ∧ Hid (wr.rangeAt (b2 + 1) 0 (Chv q1 d1 q2 d2 k).toList) ∧ Hid (ChAt wr q1 q2 (iotaI k) (L.take k)) ∧ Hid (wr.there b2 0 2 ∧ wr.there (b2 + 1) 0 2) ∧ Hid (Below b2 w wr ∧ W.heap.size ≤ wr.heap.size) ∧ Hid ((∀ g, q1 = some ⟨g, 0, none⟩ → g ≠ b2) ∧ (∀ g, q2 = some ⟨g, 0, none⟩ → g ≠ b2))) (fun i _ => n - (intOf i).toNat)
  case atStart => exact ⟨0, 0, 0, none, none, by omega, rfl, Lib.hid ⟨by omega, by omega⟩, R3, Lib.hid ⟨.inl ⟨rfl, rfl⟩, .inl ⟨rfl, by simp [plL]⟩⟩, Lib.hid ⟨T2.out, T3.out⟩, Lib.hid ⟨HBW.out, Nat.le_refl _⟩, Lib.hid ⟨fun g h => (by cases h), fun g h => (by cases h)⟩⟩
  case round =>
    obtain ⟨k, d1, d2, q1, q2, hk, rfl, hd, hr3, hch, hth, hqb, hg⟩ := hrel
    by_cases hlt : k < n
    · have hki : (k : Int) < n := by omega
      obtain ⟨e, he⟩ : ∃ e, L[k]? = some e := ⟨_, List.getElem?_eq_getElem (by rw [HN.out]; exact hlt)⟩
      have hBW : Below b2 W wr := ⟨hqb.out.1.os.trans HBW.out.os.symm, hqb.out.1.tape.trans HBW.out.tape.symm, hqb.out.1.output.trans HBW.out.output.symm, hqb.out.2, fun x hx => (hqb.out.1.block x hx).trans (HBW.out.block x hx).symm⟩
      obtain ⟨b, o, rfl, hr⟩ := (PP0.out.keep (by have h := hqb.out.1; rwa [← HB2.out] at h)) k e he
      obtain ⟨xo, xc, r⟩ := e
      have c0 : wr.cell? ⟨b, o + k * 3, none⟩ = some (.int .i8 xo) := hr 0 _ rfl
      have c1 : wr.cell? ⟨b, o + k * 3 + 1, none⟩ = some (.int .i8 xc) := hr 1 _ rfl
      have c2 : wr.cell? ⟨b, o + k * 3 + 2, none⟩ = some (.int .i16 r) := hr 2 _ rfl
      have hlen : ((L.take k).length = k) := by rw [List.length_take, HN.out]; omega
      have htk : L.take (k + 1) = L.take k ++ [(xo, xc, r)] := by rw [List.take_add_one, he]; rfl
      obtain ⟨V2, hV2, d0', d1', d2', bb2⟩ := pm_box3 xo xc r 82 wr
      have hpr : V2.rangeAt wr.heap.size 0 (Pm xo xc r).toList := by rw [← hV2]; exact rangeAt_row (heap_alloc_last wr _)
      have hqr : wr.heap.size < V2.heap.size := by rw [← hV2]; simp
      have hbs : b2 + 1 < wr.heap.size := by have := HS.out; have := hqb.out.2; omega
      have R4 := range_kept hr3.out hbs V2 bb2
      have H4 := Lib.hid (hch.out.keep bb2)
      have TH4 := Lib.hid (show V2.there b2 0 2 ∧ V2.there (b2 + 1) 0 2 from ⟨there_below hth.out.1 bb2 (by omega), there_below hth.out.2 bb2 hbs⟩)
      have B4 := Lib.hid (show Below b2 w V2 from hqb.out.1.trans (bb2.mono (by omega)))
      have S4 := Lib.hid (show W.heap.size ≤ V2.heap.size from Nat.le_trans hqb.out.2 bb2.size)
      have TW := Lib.hid (fun V (h : ChAt V q1 q2 (iotaI k) (L.take k)) => with_any q1 d1 q2 d2 k (iotaI k) (L.take k) (k : Int) xo xc r (iotaI_len k) hlen (by omega) hd.out.1 hd.out.2 V h)
      obtain ⟨pb, hpb⟩ : ∃ pb, wr.heap.size = pb := ⟨_, rfl⟩
      rw [hpb] at hpr hqr hbs d0' d1' d2'
      have HTK := Lib.hid htk
      clear he hr htk hlen bb2
      go_upto_region 5 with (fail)
      try rw [hV2]
      clear hV2 c0 c1 c2
      try rw [hpb]
      clear hpb
      have m0 : V2.cell? ⟨b2 + 1, 0, none⟩ = some (.slice q1 k d1) := R4 0 _ rfl
      have m1 : V2.cell? ⟨b2 + 1, 1, none⟩ = some (.slice q2 k d2) := R4 1 _ rfl
      clear R4
      simp only [Chv, Pm] at TW
      go_wp2_with (go_at_call 67; refine (TW.out _ H4.out).mono ?_; rintro e V3 ⟨g1, e1, g2, e2, rfl, h1, h2, l1, l2, hc3, hb3, _⟩; have T5 := there_below TH4.out.2 hb3 (by omega); have T5b := Lib.hid (there_below TH4.out.1 hb3 (by omega)); have HC3 := Lib.hid hc3; have HB3 := Lib.hid hb3; have L12 := Lib.hid (show V2.heap.size ≤ g1 ∧ V2.heap.size ≤ g2 ∧ k + 1 ≤ e1 ∧ k + 1 ≤ e2 from ⟨l1, l2, h1, h2⟩); obtain ⟨u0, hu0⟩ := Option.isSome_iff_exists.1 (T5 0 (by omega)).1; obtain ⟨u1, hu1⟩ := Option.isSome_iff_exists.1 (T5 1 (by omega)).1; have f0 := (T5 0 (by omega)).2; have f1 := (T5 1 (by omega)).2; simp only [Nat.zero_add] at hu0 hu1 f0 f1; have T5 := Lib.hid T5; clear hc3 hb3 l1 l2 h1 h2 m0 m1 d0' d1' d2')
      go_roundw
      case rel =>
        refine ⟨k + 1, e1, e2, some ⟨g1, 0, none⟩, some ⟨g2, 0, none⟩, by omega, by go_num, Lib.hid L12.out.2.2, Lib.hid (World.rangeAt_setCells_same V3 (b2 + 1) 0 (Chv (some ⟨g1, 0, none⟩) e1 (some ⟨g2, 0, none⟩) e2 (k + 1)).toList T5.out), Lib.hid ?_, Lib.hid ⟨World.there_setCells T5b.out (b2 + 1) 0 (Chv (some ⟨g1, 0, none⟩) e1 (some ⟨g2, 0, none⟩) e2 (k + 1)).toList, World.there_setCells T5.out (b2 + 1) 0 (Chv (some ⟨g1, 0, none⟩) e1 (some ⟨g2, 0, none⟩) e2 (k + 1)).toList⟩, Lib.hid ⟨below_setCells (b2 + 1) (by omega) (Chv (some ⟨g1, 0, none⟩) e1 (some ⟨g2, 0, none⟩) e2 (k + 1)).toList 0 _ (B4.out.trans (HB3.out.mono (by omega))), Nat.le_trans (Nat.le_trans S4.out HB3.out.size) (Nat.le_of_eq (size_setCellsW (b2 + 1) (Chv (some ⟨g1, 0, none⟩) e1 (some ⟨g2, 0, none⟩) e2 (k + 1)).toList 0 V3).symm)⟩, Lib.hid ⟨fun g hg => (by cases hg; have := L12.out; omega), fun g hg => (by cases hg; have := L12.out; omega)⟩⟩
        rw [iotaI_succ, HTK.out]
        have hA := L12.out
        exact ⟨HC3.out.1.set (b := b2 + 1) (vs := (Chv (some ⟨g1, 0, none⟩) e1 (some ⟨g2, 0, none⟩) e2 (k + 1)).toList) (fun g hg => by cases hg; omega), HC3.out.2.set (b := b2 + 1) (vs := (Chv (some ⟨g1, 0, none⟩) e1 (some ⟨g2, 0, none⟩) e2 (k + 1)).toList) (fun g hg => by cases hg; omega)⟩
      case measure => simp [intOf]; omega
    · obtain rfl : k = n := by omega
      have R5 := hr3.out
      have m0 : wr.cell? ⟨b2 + 1, 0, none⟩ = some (.slice q1 k d1) := R5 0 _ rfl
      have m1 : wr.cell? ⟨b2 + 1, 1, none⟩ = some (.slice q2 k d2) := R5 1 _ rfl
      have T6 := hth.out.1
      obtain ⟨u0, hu0⟩ := Option.isSome_iff_exists.1 (T6 0 (by omega)).1
      obtain ⟨u1, hu1⟩ := Option.isSome_iff_exists.1 (T6 1 (by omega)).1
      have f0 := (T6 0 (by omega)).2
      have f1 := (T6 1 (by omega)).2
      simp only [Nat.zero_add] at hu0 hu1 f0 f1
      have T6 := Lib.hid T6
      clear R5
      have HF := Lib.hid (show L.take k = L from List.take_of_length_le (by rw [HN.out]; exact Nat.le_refl _))
      have hb9 := hqb.out.2
      have hs9 := HS.out
      go_wp2
      have hr9 := World.rangeAt_setCells_same wr b2 0 [.slice q1 k d1, .slice q2 k d2] T6.out
      have hc9 := hch.out
      rw [HF.out] at hc9
      refine bodyPost_ret (results_cell_mid rfl _ _ _ 0 [.slice q1 k d1, .slice q2 k d2] _ rfl hr9 Tryz.underlying108 rfl (by kernel_rfl)) rfl ⟨_, _, _, _, rfl, hd.out.1, hd.out.2, ⟨hc9.1.set (b := b2) (vs := [.slice q1 k d1, .slice q2 k d2]) ?_, hc9.2.set (b := b2) (vs := [.slice q1 k d1, .slice q2 k d2]) ?_⟩, below_setCells b2 (by omega) [.slice q1 k d1, .slice q2 k d2] 0 _ (by have h := hqb.out.1; first | exact h | (rw [HB2.out]; exact h))⟩
      · exact hg.out.1
      · exact hg.out.2
end

section
open Go Go.RowKit
set_option linter.unusedSimpArgs false
set_option linter.unusedVariables false
attribute [local go_sem] Oper.semAt_some

/-- What a meter has when the first k of a choice are granted. -/
def mtS (I : List Int) (L : List P3) : Nat → Nat → Int
  | 0 => fun _ => 0
  | k + 1 => fun j => if j = (I.getD k 0).toNat then (L.getD k (0, 0, 0)).2.2 else mtS I L k j
theorem mtS_put {I : List Int} {L : List P3} {k q : Nat} {e : P3} (hi : I[k]? = some (q : Int)) (he : L[k]? = some e) : (M6 (mtS I L k)).setIfInBounds q (.int .i16 e.2.2) = M6 (mtS I L (k + 1)) := by
  rw [M6_put]
  congr 1
  funext j
  simp [mtS, List.getD, hi, he]
theorem M6_cell {w : World} {b : Nat} {f : Nat → Int} (h : w.rangeAt b 0 (M6 f).toList) (q : Nat) (hq : q < 6) : w.cell? ⟨b, q, none⟩ = some (.int .i16 (f q)) := by
  have := h q _ (by rw [Array.getElem?_toList]; exact M6_at f q hq)
  rwa [Nat.zero_add] at this
theorem M6_set {w : World} {b q : Nat} {f : Nat → Int} {r : Int} (h : w.rangeAt b 0 (M6 f).toList) (ht : w.there b 0 6) (hq : q < 6) : (w.setCell ⟨b, q, none⟩ (.int .i16 r)).rangeAt b 0 ((M6 f).setIfInBounds q (.int .i16 r)).toList := by
  intro j v hj
  rw [Nat.zero_add]
  rw [Array.getElem?_toList, Array.getElem?_setIfInBounds] at hj
  by_cases e : q = j
  · subst e
    have h0 := (ht q hq).1
    rw [Nat.zero_add] at h0
    obtain ⟨u, hu⟩ := Option.isSome_iff_exists.1 h0
    simp [M6_size, hq] at hj
    subst hj
    exact World.rangeAt_setCells_same w b q [.int .i16 r] (fun i hi => by simp at hi; subst hi; have := ht q hq; rwa [Nat.zero_add] at this) 0 _ rfl
  · rw [if_neg e] at hj
    have h1 := h j v (by rw [Array.getElem?_toList]; exact hj)
    rw [Nat.zero_add] at h1
    exact (cell_same_block (fun h => e h)).trans h1
theorem mt_boxes (p1 : Option Addr) (c1 : Nat) (p2 : Option Addr) (c2 n : Nat) (w : World) : ∃ W, ((w.alloc (.cells (Chv p1 c1 p2 c2 n) 108)).alloc (.cells (M6 fun _ => 0) 163)).alloc (.cells (M6 fun _ => 0) 163) = W ∧ W.heap.size = w.heap.size + 1 + 1 + 1 ∧ W.rangeAt w.heap.size 0 (Chv p1 c1 p2 c2 n).toList ∧ W.there (w.heap.size + 1) 0 6 ∧ W.there (w.heap.size + 1 + 1) 0 6 ∧ W.rangeAt (w.heap.size + 1 + 1) 0 (M6 fun _ => 0).toList ∧ Below w.heap.size w W := by
  have h1 : (w.alloc (.cells (Chv p1 c1 p2 c2 n) 108)).heap.size = w.heap.size + 1 := by simp
  have h2 : ((w.alloc (.cells (Chv p1 c1 p2 c2 n) 108)).alloc (.cells (M6 fun _ => 0) 163)).heap.size = w.heap.size + 1 + 1 := by simp
  refine ⟨_, rfl, by simp, World.rangeAt_alloc (World.rangeAt_alloc (rangeAt_row (heap_alloc_last w _)) _) _, ?_, ?_, ?_, ((((Below.refl _ _).alloc (Nat.le_refl _) _).alloc (by simp) _).alloc (by simp; omega) _)⟩
  · have h := there_row (n := 6) (heap_alloc_last (w.alloc (.cells (Chv p1 c1 p2 c2 n) 108)) (.cells (M6 fun _ => 0) 163)) (M6_size _)
    rw [h1] at h
    exact World.there_alloc h _
  · have h := there_row (n := 6) (heap_alloc_last ((w.alloc (.cells (Chv p1 c1 p2 c2 n) 108)).alloc (.cells (M6 fun _ => 0) 163)) (.cells (M6 fun _ => 0) 163)) (M6_size _)
    rwa [h2] at h
  · have h := rangeAt_row (heap_alloc_last ((w.alloc (.cells (Chv p1 c1 p2 c2 n) 108)).alloc (.cells (M6 fun _ => 0) 163)) (.cells (M6 fun _ => 0) 163))
    rwa [h2] at h
theorem plL_at : ∀ (L : List P3) (k : Nat) (e : P3), L[k]? = some e → (plL L)[k * 3 + 2]? = some (.int .i16 e.2.2)
  | [], k, e, h => by simp at h
  | x :: r, 0, e, h => by
    simp only [List.getElem?_cons_zero, Option.some.injEq] at h
    subst h
    simp [plL, p3, Pm]
  | x :: r, k + 1, e, h => by
    have ih := plL_at r k e (by simpa using h)
    have e3 : (p3 x).length = 3 := p3_len x
    simp only [plL, List.flatMap_cons]
    rw [List.getElem?_append_right (by omega), e3, show (k + 1) * 3 + 2 - 3 = k * 3 + 2 by omega]
    exact ih
theorem m6_zero : (M6 fun _ => 0) = #[.int .i16 0, .int .i16 0, .int .i16 0, .int .i16 0, .int .i16 0, .int .i16 0] := by rfl
set_option maxRecDepth 100000 in
set_option maxHeartbeats 2000000 in
theorem meterOf_any (p1 : Option Addr) (c1 : Nat) (p2 : Option Addr) (c2 n : Nat) (I : List Int) (L : List P3) (hI : I.length = n) (hL : L.length = n) (hn : n ≤ 6) (hIn : ∀ i ∈ I, ∃ q : Nat, i = (q : Int) ∧ q < 6) (w : World) (hc : ChAt w p1 p2 I L) :
    Calls Tryz.prog 101 #[.agg (Chv p1 c1 p2 c2 n)] w fun e w' => e = .returned (.agg (M6 (mtS I L n))) ∧ Below w.heap.size w w' := by
  have HC0 := Lib.hid hc
  have HIn := Lib.hid hIn
  clear hc hIn
  go_enter Tryz.func101, Tryz.ntmps101
  go_upto_region 2 with (fail)
  obtain ⟨W, hW, hs, r1, t2, t3, r3, hB⟩ := mt_boxes p1 c1 p2 c2 n w
  rw [m6_zero] at hW
  simp only [Chv] at hW r1 ⊢
  try rw [hW]
  clear hW
  have HC := Lib.hid (HC0.out.keep hB)
  have HB := Lib.hid hB
  have HS := Lib.hid hs
  obtain ⟨b1, hb1⟩ : ∃ b1, w.heap.size = b1 := ⟨_, rfl⟩
  rw [hb1] at r1 t2 t3 r3
  try simp only [hb1]
  have HB1 := Lib.hid hb1
  have k0 : W.cell? ⟨b1, 0, none⟩ = some (.slice p1 n c1) := r1 0 _ rfl
  have T2 := Lib.hid t2
  have T3 := Lib.hid t3
  have R3 := Lib.hid (show W.rangeAt (b1 + 1 + 1) 0 (M6 (mtS I L 0)).toList from r3)
  have K1 := Lib.hid (show W.cell? ⟨b1, 1, none⟩ = some (.slice p2 n c2) from r1 1 _ rfl)
  clear r1 t2 t3 r3 hB hs
  go_upto_region 3 with (fail)
  clear k0
  have HCL := Lib.hid (fun V (h : Below (b1 + 1) W V) => HC0.out.keep (HB.out.trans (h.mono (by have := HB1.out; omega))))
  go_loopw [10] (fun i wr => ∃ (k : Nat), k ≤ n ∧ i = .int .i64 k ∧ Hid (wr.rangeAt (b1 + 1 + 1) 0 (M6 (mtS I L k)).toList) ∧ Hid (wr.there (b1 + 1) 0 6 ∧ wr.there (b1 + 1 + 1) 0 6) ∧ Hid (Below (b1 + 1) W wr)) (fun i _ => n - (intOf i).toNat)
  case atStart => exact ⟨0, by omega, rfl, R3, Lib.hid ⟨T2.out, T3.out⟩, Lib.hid (Below.refl _ _)⟩
  case round =>
    obtain ⟨k, hk, rfl, hr3, hth, hqb⟩ := hrel
    by_cases hlt : k < n
    · have hki : (k : Int) < n := by omega
      obtain ⟨i, hi⟩ : ∃ i, I[k]? = some i := ⟨_, List.getElem?_eq_getElem (by omega)⟩
      obtain ⟨e, he⟩ : ∃ e, L[k]? = some e := ⟨_, List.getElem?_eq_getElem (by omega)⟩
      obtain ⟨q, rfl, hq6⟩ := HIn.out i (List.mem_of_getElem? hi)
      obtain ⟨hA, hP⟩ := HCL.out wr hqb.out
      rcases hA with ⟨_, h0⟩ | ⟨g1, rfl, _, hA⟩
      · exfalso
        have h1 : I = [] := by simpa using h0
        rw [h1] at hi; simp at hi
      rcases hP with ⟨_, h0⟩ | ⟨g2, rfl, _, hP⟩
      · exfalso
        have h1 := plL_at L k e he
        rw [h0] at h1; simp at h1
      have ci : wr.cell? ⟨g1, k, none⟩ = some (.int .i64 (q : Int)) := by
        have := hA k (.int .i64 (q : Int)) (by rw [List.getElem?_map, hi]; rfl)
        rwa [Nat.zero_add] at this
      have cr : wr.cell? ⟨g2, k * 3 + 2, none⟩ = some (.int .i16 e.2.2) := by
        have := hP _ _ (plL_at L k e he)
        rwa [Nat.zero_add] at this
      have cb : wr.cell? ⟨b1, 1, none⟩ = some (.slice (some ⟨g2, 0, none⟩) n c2) := (hqb.out.cell (p := ⟨b1, 1, none⟩) (by show b1 < b1 + 1; omega)).trans K1.out
      obtain ⟨u0, hu0⟩ := Option.isSome_iff_exists.1 (hth.out.2 q hq6).1
      have f0 := (hth.out.2 q hq6).2
      simp only [Nat.zero_add] at hu0 f0
      have HS3 := Lib.hid (M6_set (r := e.2.2) hr3.out hth.out.2 hq6)
      rw [mtS_put hi he] at HS3
      obtain ⟨r, hr⟩ : ∃ r, e.2.2 = r := ⟨_, rfl⟩
      rw [hr] at cr HS3
      have hqi : (q : Int) < 6 := by omega
      have hq0 : (0 : Int) ≤ q := by omega
      clear hi he hA hP hr
      go_wp2
      go_roundw
      case rel => exact ⟨k + 1, by omega, by go_num, HS3, Lib.hid ⟨there_setCell hth.out.1, there_setCell hth.out.2⟩, Lib.hid (hqb.out.setCell (p := ⟨b1 + 1 + 1, q, none⟩) (by show b1 + 1 ≤ b1 + 1 + 1; omega) _)⟩
      case measure => simp [intOf]; omega
    · obtain rfl : k = n := by omega
      have T6 := Lib.hid hth.out.1
      have R6 := hr3.out
      obtain ⟨f, hf⟩ : ∃ f, mtS I L k = f := ⟨_, rfl⟩
      rw [hf] at R6
      have HF := Lib.hid hf
      clear hf
      have T7 := T6.out
      go_wp2_with (first | (refine ld_stage 163 rfl ?_; refine wpList_load_mid rfl 163 _ rfl (b1 + 1 + 1) 0 rfl (M6 f).toList _ R6 Tryz.underlying163 rfl (by rw [M6_length]; kernel_rfl) ?_) | (refine st_stage 163 rfl ?_; refine wpList_store_mid rfl 163 _ _ rfl _ 0 (M6 f) rfl rfl (by rw [M6_size]; with_reducible exact T7) (by rw [M6_size]; kernel_rfl) (M6_one _) ?_))
      have hr9 := World.rangeAt_setCells_same wr (b1 + 1) 0 (M6 f).toList (by rw [M6_length]; exact T6.out)
      refine bodyPost_ret (results_cell_mid rfl _ _ _ 0 (M6 f).toList _ rfl hr9 Tryz.underlying163 rfl (by rw [M6_length]; kernel_rfl)) rfl ⟨by rw [HF.out, Array.toArray_toList], below_setCells (b1 + 1) (by have := HB1.out; omega) _ _ _ (HB.out.trans (hqb.out.mono (by have := HB1.out; omega)))⟩
end

section
open Go Go.RowKit
set_option linter.unusedSimpArgs false
set_option linter.unusedVariables false
attribute [local go_sem] Oper.semAt_some

/-- A clerk, as a value. -/
def Ckv (bo bm : Nat) : Array Value := #[.pointer (some ⟨bo, 0, none⟩), .map (some bm)]
set_option maxRecDepth 100000 in
set_option maxHeartbeats 2000000 in
theorem clerkOf_any (bo : Nat) (w : World) :
    Calls Tryz.prog 66 #[.pointer (some ⟨bo, 0, none⟩)] w fun e w' => ∃ bm, e = .returned (.agg (Ckv bo bm)) ∧ w.heap.size ≤ bm ∧ w'.heap[bm]? = some (.map #[] 0) ∧ Below w.heap.size w w' := by
  have hmk : ∀ w : World, (Instr.makeMap 109 none).run Tryz.prog w = .ok (.map (some w.heap.size)) (w.alloc (.map #[] 0)) := fun w => by kernel_rfl
  go_enter Tryz.func66, Tryz.ntmps66
  go_wp2
  have hr : ((w.alloc (.cells #[.pointer (some ⟨bo, 0, none⟩), .map (some (w.heap.size + 1))] 111)).alloc (.map #[] 0)).rangeAt w.heap.size 0 [.pointer (some ⟨bo, 0, none⟩), .map (some (w.heap.size + 1))] := World.rangeAt_alloc (rangeAt_row (heap_alloc_last w (.cells #[.pointer (some ⟨bo, 0, none⟩), .map (some (w.heap.size + 1))] 111))) _
  have hm := heap_alloc_last (w.alloc (.cells #[.pointer (some ⟨bo, 0, none⟩), .map (some (w.heap.size + 1))] 111)) (.map #[] 0)
  have hz : (w.alloc (.cells #[.pointer (some ⟨bo, 0, none⟩), .map (some (w.heap.size + 1))] 111)).heap.size = w.heap.size + 1 := by simp
  rw [hz] at hm
  exact bodyPost_ret (results_cell_mid rfl _ _ _ 0 [.pointer (some ⟨bo, 0, none⟩), .map (some (w.heap.size + 1))] _ rfl hr Tryz.underlying111 rfl (by kernel_rfl)) rfl ⟨w.heap.size + 1, rfl, Nat.le_succ _, hm, ((Below.refl _ _).alloc (Nat.le_refl _) _).alloc (by simp) _⟩
/-- Is a list kept, by its refusal. -/
theorem nil_kept {G : Gd} {Lw : List T2} {L : List P3} (hp : prmB G Lw L = true) {w w' : World} {e : Ending} (h : RfP Lw (gwV G Lw L) w e w') : Below w.heap.size w w' ∧ ((keptB G Lw L = true ∧ e = .returned .nilIface) ∨ (keptB G Lw L = false ∧ ∃ t v, e = .returned (.iface t v))) := by
  have hgw : gwV G Lw L = gwR L G := by simp [gwV, hp]
  obtain ⟨hb, ⟨hne, rfl⟩ | ⟨h0, hn, rfl⟩ | ⟨h0, i, x, z, hx, hl, hlo, rfl, _⟩⟩ := h
  · refine ⟨hb, .inr ⟨?_, _, _, by rw [errG_ne hne]⟩⟩
    rw [hgw] at hne
    unfold keptB
    simp [hne]
  · refine ⟨hb, .inl ⟨?_, rfl⟩⟩
    rw [hgw] at h0 hn
    unfold keptB
    rw [lowI_none hn]
    simp [h0]
  · refine ⟨hb, .inr ⟨?_, _, _, rfl⟩⟩
    rw [hgw] at h0 hl hlo
    unfold keptB
    rw [lowI_at hx hl hlo]
    simp
theorem plL_part : ∀ (L : List P3) (k : Nat) (e : P3) (j : Nat) (v : Value), L[k]? = some e → (p3 e)[j]? = some v → (plL L)[k * 3 + j]? = some v
  | [], k, e, j, v, h, _ => by simp at h
  | x :: r, 0, e, j, v, h, hv => by
    simp only [List.getElem?_cons_zero, Option.some.injEq] at h
    subst h
    have hj : j < (p3 x).length := (List.getElem?_eq_some_iff.1 hv).1
    simp only [plL, List.flatMap_cons, Nat.zero_mul, Nat.zero_add]
    rw [List.getElem?_append_left hj]; exact hv
  | x :: r, k + 1, e, j, v, h, hv => by
    have ih := plL_part r k e j v (by simpa using h) hv
    have e3 : (p3 x).length = 3 := p3_len x
    simp only [plL, List.flatMap_cons]
    rw [List.getElem?_append_right (by omega), e3, show (k + 1) * 3 + j - 3 = k * 3 + j by omega]
    exact ih
theorem CAt.ps {w : World} {p : Option Addr} {L : List P3} (h : CAt w p (plL L)) : PsAt w p L := fun k e he => by
  rcases h with ⟨_, h0⟩ | ⟨b, h1, _, hr⟩
  · have := plL_at L k e he
    rw [h0] at this; simp at this
  · refine ⟨b, 0, h1, fun j v hj => ?_⟩
    have := hr _ _ (plL_part L k e j v he hj)
    rwa [show 0 + (k * 3 + j) = 0 + k * 3 + j by omega] at this
theorem ke_boxes (bo bm : Nat) (p1 : Option Addr) (c1 : Nat) (p2 : Option Addr) (c2 n : Nat) (w : World) : ∃ W, (w.alloc (.cells (Ckv bo bm) 111)).alloc (.cells (Chv p1 c1 p2 c2 n) 108) = W ∧ W.heap.size = w.heap.size + 1 + 1 ∧ W.rangeAt w.heap.size 0 (Ckv bo bm).toList ∧ W.rangeAt (w.heap.size + 1) 0 (Chv p1 c1 p2 c2 n).toList ∧ Below w.heap.size w W := by
  have h1 : (w.alloc (.cells (Ckv bo bm) 111)).heap.size = w.heap.size + 1 := by simp
  refine ⟨_, rfl, by simp, World.rangeAt_alloc (rangeAt_row (heap_alloc_last w _)) _, ?_, ((Below.refl _ _).alloc (Nat.le_refl _) _).alloc (by simp) _⟩
  have h := rangeAt_row (heap_alloc_last (w.alloc (.cells (Ckv bo bm) 111)) (.cells (Chv p1 c1 p2 c2 n) 108))
  rwa [h1] at h
theorem new_thereM (w : World) : (w.alloc (.cells #[.int .i16 0, .int .i16 0, .int .i16 0, .int .i16 0, .int .i16 0, .int .i16 0] 163)).there w.heap.size 0 6 := there_row (heap_alloc_last w _) rfl
theorem stored_m6 (f : Nat → Int) (w : World) : ∃ X, (w.alloc (.cells #[.int .i16 0, .int .i16 0, .int .i16 0, .int .i16 0, .int .i16 0, .int .i16 0] 163)).setCells w.heap.size 0 (M6 f).toList = X ∧ X.heap.size = w.heap.size + 1 ∧ X.rangeAt w.heap.size 0 (M6 f).toList ∧ Below w.heap.size w X :=
  ⟨_, rfl, by rw [size_setCellsW]; simp, World.rangeAt_setCells_same _ _ _ _ (by rw [M6_length]; exact new_thereM w), below_setCells _ (Nat.le_refl _) _ _ _ ((Below.refl _ _).alloc (Nat.le_refl _) _)⟩
set_option maxRecDepth 100000 in
set_option maxHeartbeats 2000000 in
theorem keeps_any (G : Gd) (pw : Option Addr) (cw : Nat) (Lw : List T2) (hLw : Lw.length ≤ 1048576) (hOw : ∀ e ∈ Lw, okT2 e) (bo bm : Nat) (p1 : Option Addr) (c1 : Nat) (p2 : Option Addr) (c2 n : Nat) (I : List Int) (L : List P3) (hI : I.length = n) (hL : L.length = n) (hn : n ≤ 6) (hIn : ∀ i ∈ I, ∃ q : Nat, i = (q : Int) ∧ q < 6) (hO : ∀ e ∈ L, okPQ e)
    (hp : prmB G Lw L = true) (Kf : Array Value → Bool) (hK : Kf (M6 (mtS I L n)) = keptB G Lw L) (es : Array MapEntry) (clock : Nat) (w : World) (hb : OfBox w bo ⟨G, pw, Lw.length, cw⟩) (hpw : TsAt w pw Lw) (hG : GdOk G) (hT : TabAt w) (hc : ChAt w p1 p2 I L) (hm : w.heap[bm]? = some (.map es clock)) (hM : MapK Kf es.toList) :
    Calls Tryz.prog 68 #[.agg (Ckv bo bm), .agg (Chv p1 c1 p2 c2 n)] w fun e w' => e = .returned (.bool (keptB G Lw L)) ∧ (∃ es' clock', w'.heap[bm]? = some (.map es' clock') ∧ MapK Kf es'.toList) ∧ Below bm w w' ∧ w.heap.size ≤ w'.heap.size ∧ ∀ x, x ≠ bm → x < w.heap.size → w'.heap[x]? = w.heap[x]? := by
  have hbm : bm < w.heap.size := (Array.getElem?_eq_some_iff.1 hm).1
  have HM0 := Lib.hid hm
  go_enter Tryz.func68, Tryz.ntmps68
  go_upto_region 1 with (fail)
  obtain ⟨W, hW, hs, r1, r2, hB⟩ := ke_boxes bo bm p1 c1 p2 c2 n w
  simp only [Ckv, Chv] at hW r1 r2 ⊢
  rw [hW]
  clear hW
  obtain ⟨b1, hb1⟩ : ∃ b1, w.heap.size = b1 := ⟨_, rfl⟩
  have HB1 := Lib.hid hb1
  rw [hb1] at r1 r2
  try simp only [hb1]
  have k0 : W.cell? ⟨b1, 0, none⟩ = some (.pointer (some ⟨bo, 0, none⟩)) := r1 0 _ rfl
  have k1 : W.cell? ⟨b1, 1, none⟩ = some (.map (some bm)) := r1 1 _ rfl
  have k2 : W.cell? ⟨b1 + 1, 0, none⟩ = some (.slice p1 n c1) := r2 0 _ rfl
  have k3 : W.cell? ⟨b1 + 1, 1, none⟩ = some (.slice p2 n c2) := r2 1 _ rfl
  have TM := Lib.hid (show Calls Tryz.prog 101 #[.agg #[.slice p1 n c1, .slice p2 n c2]] W _ from meterOf_any p1 c1 p2 c2 n I L hI hL hn hIn W (hc.keep hB))
  obtain ⟨f, hf⟩ : ∃ f, mtS I L n = f := ⟨_, rfl⟩
  rw [hf] at TM hK
  go_upto_region 2 with (first | (go_at_call 101; refine TM.out.mono ?_; rintro e V ⟨rfl, hV⟩) | (refine st_stage 163 rfl ?_; refine wpList_store_mid rfl 163 _ _ rfl _ 0 (M6 f) rfl rfl (by rw [M6_size]; exact new_thereM V) (by rw [M6_size]; kernel_rfl) (M6_one _) ?_; obtain ⟨X, hX, zX, rX, bX⟩ := stored_m6 f V; rw [hX]; clear hX))
  have hWX : Below W.heap.size W X := hV.trans (bX.mono hV.size)
  have hwX : Below w.heap.size w X := hB.trans (hWX.mono hB.size)
  have x0 : X.cell? ⟨b1, 0, none⟩ = some (.pointer (some ⟨bo, 0, none⟩)) := (hWX.cell (p := ⟨b1, 0, none⟩) (by show b1 < W.heap.size; omega)).trans k0
  have x1 : X.cell? ⟨b1, 1, none⟩ = some (.map (some bm)) := (hWX.cell (p := ⟨b1, 1, none⟩) (by show b1 < W.heap.size; omega)).trans k1
  have x3 : X.cell? ⟨b1 + 1, 1, none⟩ = some (.slice p2 n c2) := (hWX.cell (p := ⟨b1 + 1, 1, none⟩) (by show b1 + 1 < W.heap.size; omega)).trans k3
  have hmX : X.heap[bm]? = some (.map es clock) := (hwX.block bm hbm).trans hm
  have lk := look_m6 hmX hM f
  have T := Lib.hid (refusalOf_any G pw cw Lw hLw hOw p2 c2 L (by omega) hO bo X (hb.below hwX hb.lt) (hpw.keep hwX) ((hc.2.keep hwX).ps) hG (hT.below hwX (tab_lt hT)))
  rw [hL] at T
  have HX := Lib.hid hwX
  have HMX := Lib.hid hmX
  have HMM := Lib.hid hM
  have lX : V.heap.size < X.heap.size := by omega
  have lb1 : b1 + 1 < X.heap.size := by have := hWX.size; omega
  obtain ⟨m0, hm0⟩ : ∃ m0, V.heap.size = m0 := ⟨_, rfl⟩
  rw [hm0] at rX lX ⊢
  have RX := Lib.hid rX
  obtain ⟨kb, hkb⟩ : ∃ kb, keptB G Lw L = kb := ⟨_, rfl⟩
  have HKB := Lib.hid hkb
  have HK := Lib.hid hK
  rw [hkb] at hK
  clear k0 k1 k2 k3 TM hV bX zX hm0 hWX hwX hB hs r1 r2 hmX hM hf hm
  rcases lk with ⟨lk, hnot⟩ | lk
  · have HNOT := Lib.hid hnot
    clear hnot
    go_upto_region 5 with (first | (refine ld_stage 163 rfl ?_; refine wpList_load_mid rfl 163 _ rfl m0 0 rfl (M6 f).toList _ rX Tryz.underlying163 rfl (by rw [M6_length]; kernel_rfl) ?_) | (go_at_call 61; fail))
    refine T.out.mono ?_
    rintro e V2 hRf
    obtain ⟨hb2, hcase⟩ := nil_kept hp hRf
    have y1 : V2.cell? ⟨b1, 1, none⟩ = some (.map (some bm)) := (hb2.cell (p := ⟨b1, 1, none⟩) (by show b1 < X.heap.size; omega)).trans x1
    have rY := range_kept RX.out lX V2 hb2
    have hlm : bm < X.heap.size := (Array.getElem?_eq_some_iff.1 HMX.out).1
    obtain ⟨es', clock', W3, hput, hm3, hM3, hb3, hs3, hx3⟩ := put_m6 (w := V2) ((hb2.block bm hlm).trans HMX.out) HMM.out f HNOT.out
    have hval : Kf (M6 f) = kb := hK
    rw [hval] at hput
    have HE := Lib.hid (show (∃ es' clock', W3.heap[bm]? = some (.map es' clock') ∧ MapK Kf es'.toList) ∧ Below bm w W3 ∧ w.heap.size ≤ W3.heap.size ∧ ∀ x, x ≠ bm → x < w.heap.size → W3.heap[x]? = w.heap[x]? from
      ⟨⟨es', clock', hm3, hM3⟩, (HX.out.trans (hb2.mono HX.out.size)).mono (Nat.le_of_lt hbm) |>.trans hb3, by rw [hs3]; exact Nat.le_trans HX.out.size hb2.size, fun x hx hl => (hx3 x hx).trans ((hb2.block x (Nat.lt_of_lt_of_le hl HX.out.size)).trans (HX.out.block x hl))⟩)
    clear x0 x1 x3 hb2 hRf hm3 hM3 hb3 hs3 hx3 lk
    rcases hcase with ⟨hkk, rfl⟩ | ⟨hkk, t, v, rfl⟩
    · obtain rfl : kb = true := by rw [← HKB.out]; exact hkk
      go_wp2_with ((refine ld_stage 163 rfl ?_; refine wpList_load_mid rfl 163 _ rfl m0 0 rfl (M6 f).toList _ rY Tryz.underlying163 rfl (by rw [M6_length]; kernel_rfl) ?_))
      go_ret
      exact ⟨by rw [HKB.out]; try rfl, HE.out⟩
    · obtain rfl : kb = false := by rw [← HKB.out]; exact hkk
      go_wp2_with ((refine ld_stage 163 rfl ?_; refine wpList_load_mid rfl 163 _ rfl m0 0 rfl (M6 f).toList _ rY Tryz.underlying163 rfl (by rw [M6_length]; kernel_rfl) ?_))
      go_ret
      exact ⟨by rw [HKB.out]; try rfl, HE.out⟩
  · have hval : Kf (M6 f) = kb := hK
    rw [hval] at lk
    go_wp2_with ((refine ld_stage 163 rfl ?_; refine wpList_load_mid rfl 163 _ rfl m0 0 rfl (M6 f).toList _ rX Tryz.underlying163 rfl (by rw [M6_length]; kernel_rfl) ?_))
    go_ret
    exact ⟨by rw [HKB.out]; try rfl, ⟨es, clock, HMX.out, HMM.out⟩, HX.out.mono (Nat.le_of_lt hbm), HX.out.size, fun x _ hl => HX.out.block x hl⟩
end
end Go.Proofs.YtaghnminpfgdcaaGreatDoor
