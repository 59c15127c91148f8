/- The way of the water, the program's. Condition: the table of math/bits is laid (WaterPath). -/
import Derived.Test.YtjhaonfdapldcaaDoorWyi
import Derived.RangeFuncBox
import Derived.OwnWalkIn
namespace Go.Proofs.YtjhaonfdapldcaaDoor
open Go Go.RowKit Go.Shelf
attribute [local go_sem] Oper.semAt_some
set_option linter.unusedSimpArgs false
set_option linter.unusedVariables false

theorem vrow_alloc {w : World} {e : TypeId} {g cap : Nat} {xs : List Value} (h : VRow w e g cap xs) (o : Obj) : VRow (w.alloc o) e g cap xs := h.kept (heap_alloc_old w o h.lt)
theorem pt_boxes (p : Nat) (w : World) : ∃ X, (((((w.alloc (.cells #[.pointer (some ⟨p, 0, none⟩)] 57)).alloc (.cells #[.slice none 0 0] 44)).alloc (.cells #[.int .i64 0] 2)).alloc (.cells #[] 2)).alloc (.cells #[.slice (some ⟨w.heap.size + 1 + 1 + 1, 0, none⟩) 0 0] 44)).alloc (.cells #[.int .u64 0] 25) = X ∧ X.heap.size = w.heap.size + 1 + 1 + 1 + 1 + 1 + 1 ∧ X.cell? ⟨w.heap.size, 0, none⟩ = some (.pointer (some ⟨p, 0, none⟩)) ∧ Boxed X (w.heap.size + 1) 44 (.slice none 0 0) ∧ Boxed X (w.heap.size + 1 + 1) 2 (.int .i64 0) ∧ VRow X 2 (w.heap.size + 1 + 1 + 1) 0 [] ∧ Boxed X (w.heap.size + 1 + 1 + 1 + 1) 44 (.slice (some ⟨w.heap.size + 1 + 1 + 1, 0, none⟩) 0 0) ∧ Boxed X (w.heap.size + 1 + 1 + 1 + 1 + 1) 25 (.int .u64 0) ∧ Below w.heap.size w X := by
  obtain ⟨W0, h0⟩ : ∃ W0, w.alloc (.cells #[.pointer (some ⟨p, 0, none⟩)] 57) = W0 := ⟨_, rfl⟩
  have z0 : W0.heap.size = w.heap.size + 1 := by rw [← h0]; simp
  have c0 : Boxed W0 w.heap.size 57 (.pointer (some ⟨p, 0, none⟩)) := by rw [← h0]; exact Boxed.new _ _ _
  have l0 : Below w.heap.size w W0 := by rw [← h0]; exact (Below.refl _ _).alloc (Nat.le_refl _) _
  obtain ⟨W1, h1⟩ : ∃ W1, W0.alloc (.cells #[.slice none 0 0] 44) = W1 := ⟨_, rfl⟩
  have z1 : W1.heap.size = w.heap.size + 1 + 1 := by rw [← h1]; simp [z0]
  have c1 : Boxed W1 (w.heap.size + 1) 44 (.slice none 0 0) := by have := Boxed.new W0 44 (.slice none 0 0); rwa [z0, h1] at this
  obtain ⟨W2, h2⟩ : ∃ W2, W1.alloc (.cells #[.int .i64 0] 2) = W2 := ⟨_, rfl⟩
  have z2 : W2.heap.size = w.heap.size + 1 + 1 + 1 := by rw [← h2]; simp [z1]
  have c2 : Boxed W2 (w.heap.size + 1 + 1) 2 (.int .i64 0) := by have := Boxed.new W1 2 (.int .i64 0); rwa [z1, h2] at this
  obtain ⟨W3, h3⟩ : ∃ W3, W2.alloc (.cells #[] 2) = W3 := ⟨_, rfl⟩
  have z3 : W3.heap.size = w.heap.size + 1 + 1 + 1 + 1 := by rw [← h3]; simp [z2]
  have c3 : VRow W3 2 (w.heap.size + 1 + 1 + 1) 0 [] := by
    have hn := vrow_made W2 2
    rwa [z2, h3] at hn
  obtain ⟨W4, h4⟩ : ∃ W4, W3.alloc (.cells #[.slice (some ⟨w.heap.size + 1 + 1 + 1, 0, none⟩) 0 0] 44) = W4 := ⟨_, rfl⟩
  have z4 : W4.heap.size = w.heap.size + 1 + 1 + 1 + 1 + 1 := by rw [← h4]; simp [z3]
  have c4 : Boxed W4 (w.heap.size + 1 + 1 + 1 + 1) 44 (.slice (some ⟨w.heap.size + 1 + 1 + 1, 0, none⟩) 0 0) := by have := Boxed.new W3 44 (.slice (some ⟨w.heap.size + 1 + 1 + 1, 0, none⟩) 0 0); rwa [z3, h4] at this
  obtain ⟨W5, h5⟩ : ∃ W5, W4.alloc (.cells #[.int .u64 0] 25) = W5 := ⟨_, rfl⟩
  have z5 : W5.heap.size = w.heap.size + 1 + 1 + 1 + 1 + 1 + 1 := by rw [← h5]; simp [z4]
  have c5 : Boxed W5 (w.heap.size + 1 + 1 + 1 + 1 + 1) 25 (.int .u64 0) := by have := Boxed.new W4 25 (.int .u64 0); rwa [z4, h5] at this
  refine ⟨W5, by rw [h0, h1, h2, h3, h4, h5], z5, ?_, ?_, ?_, ?_, ?_, c5, ?_⟩
  · have : Boxed W5 w.heap.size 57 (.pointer (some ⟨p, 0, none⟩)) := by rw [← h5, ← h4, ← h3, ← h2, ← h1]; exact ((((c0.alloc _).alloc _).alloc _).alloc _).alloc _
    exact this.cell
  · rw [← h5, ← h4, ← h3, ← h2]; exact (((c1.alloc _).alloc _).alloc _).alloc _
  · rw [← h5, ← h4, ← h3]; exact ((c2.alloc _).alloc _).alloc _
  · rw [← h5, ← h4]; exact vrow_alloc (vrow_alloc c3 _) _
  · rw [← h5]; exact c4.alloc _
  · rw [← h5, ← h4, ← h3, ← h2, ← h1]
    exact ((((l0.alloc l0.size _).alloc (by simp; omega) _).alloc (by simp; omega) _).alloc (by simp; omega) _).alloc (by simp; omega) _
/-- What the loop of pathFrom holds: the path so far in its box, the bits of the cells that it has been in, the results as they were. -/
structure PtI (G : Gd) (b : Nat) (pre : List Nat) (W : World) : Prop where
  path : ∃ g cap, Boxed W (b + 1 + 1 + 1 + 1) 44 (.slice (some ⟨g, 0, none⟩) pre.length cap) ∧ VRow W 2 g cap (pre.map IV) ∧ (g = b + 1 + 1 + 1 ∨ b + 8 ≤ g)
  been : ∃ V, Boxed W (b + 1 + 1 + 1 + 1 + 1) 25 (.int .u64 ((maskL V : Nat) : Int)) ∧ (∀ j, j ∈ V ↔ j ∈ pre) ∧ ∀ j ∈ V, j < 64
  r1 : Boxed W (b + 1) 44 (.slice none 0 0)
  r2 : Boxed W (b + 1 + 1) 2 (.int .i64 0)
  ok : ∀ j ∈ pre, okW G j = true
/-- How it may be left in the middle. -/
def PtX (G : Gd) (b : Nat) (c : Code) (pre : List Nat) (W : World) : Prop :=
  (c = .ret ∧ Boxed W (b + 1) 44 (.slice none 0 0) ∧ Boxed W (b + 1 + 1) 2 (.int .i64 4) ∧ ∃ j ∈ pre, okW G j = false) ∨ ∃ q y, pre = q ++ [y] ∧ y ∈ q
theorem box_grown {A W : World} {row : Option Nat} {b : Nat} {t : TypeId} {v : Value} (h : Boxed A b t v) (hg : A.grownBy W row) (hr : ∀ r, row = some r → ∃ o : Obj, A.heap[r]? = some o ∧ o.isCells = false) : Boxed W b t v :=
  h.kept hg fun e => by
    obtain ⟨o, ho, hc⟩ := hr b e.symm
    rw [show A.heap[b]? = _ from h] at ho; cases ho; cases hc
theorem vrow_grown {A W : World} {row : Option Nat} {e : TypeId} {g cap : Nat} {xs : List Value} (h : VRow A e g cap xs) (hg : A.grownBy W row) (hr : ∀ r, row = some r → ∃ o : Obj, A.heap[r]? = some o ∧ o.isCells = false) : VRow W e g cap xs :=
  h.kept (hg.block g h.lt fun e' => by
    obtain ⟨o, ho, hc⟩ := hr g e'.symm
    obtain ⟨cur, hcur, _⟩ := h
    rw [hcur] at ho; cases ho; cases hc)
theorem PtI.grown {G : Gd} {b : Nat} {pre : List Nat} {A W : World} {row : Option Nat} (h : PtI G b pre A) (hg : A.grownBy W row) (hr : ∀ r, row = some r → ∃ o : Obj, A.heap[r]? = some o ∧ o.isCells = false) : PtI G b pre W := by
  obtain ⟨⟨g, cap, p1, p2, p3⟩, ⟨V, q1, q2⟩, r1, r2, ok⟩ := h
  exact ⟨⟨g, cap, box_grown p1 hg hr, vrow_grown p2 hg hr, p3⟩, ⟨V, box_grown q1 hg hr, q2⟩, box_grown r1 hg hr, box_grown r2 hg hr, ok⟩
theorem PtX.grown {G : Gd} {b : Nat} {c : Code} {pre : List Nat} {A W : World} {row : Option Nat} (h : PtX G b c pre A) (hg : A.grownBy W row) (hr : ∀ r, row = some r → ∃ o : Obj, A.heap[r]? = some o ∧ o.isCells = false) : PtX G b c pre W := by
  rcases h with ⟨h1, h2, h3, h4⟩ | h
  · exact .inl ⟨h1, box_grown h2 hg hr, box_grown h3 hg hr, h4⟩
  · exact .inr h
theorem PtI.below {G : Gd} {b : Nat} {pre : List Nat} {A W : World} (h : PtI G b pre A) (hb : Below A.heap.size A W) : PtI G b pre W := h.grown (grown_of_below hb) (fun _ e => by cases e)
theorem wpListIn_appI {F : Fence} {n : Nat} {ops : Array Oper} {rest : List Oper} {o : Oper} {a : Act} {V : World} {Q : Exit → Act → World → Prop} (hgd : o.guard = none) (s x : Operand) (hop : o.op = Op.call { callee := Callee.builtin Builtin.append, args := #[s, x], argTypes := #[44, 44] })
    {g cap k : Nat} {xs : List Nat} (h : VRow V 2 g cap (xs.map IV)) (hn : xs.length = k) (hl : k ≤ 1000) (z : Nat) (hs : a.eval s = .slice (some ⟨g, 0, none⟩) k cap) (hx : a.eval x = .slice (some ⟨V.heap.size, 0, none⟩) 1 1)
    (hK : ∀ g' cap' w', VRow w' 2 g' cap' ((xs ++ [z]).map IV) → V.grownBy w' (some g) → (g' = g ∨ V.heap.size < g') → wpListIn F n Tryd.prog ops Q rest (a.put o.dst (.slice (some ⟨g', 0, none⟩) (k + 1) cap')) w') :
    wpListIn F n Tryd.prog ops Q (o :: rest) a (V.alloc (.cells #[.int .i64 (z : Int)] 2)) := by
  refine wpListIn_plain hgd fun K hK' => ?_
  obtain ⟨i, hi, hz, hsz, hby⟩ := info_parts (P := Tryd.prog) (e := 2) (z := .int .i64 0) (size := 1) (bytes := 8) (by kernel_rfl)
  have hlen : (xs.map IV).length = k := by rw [List.length_map, hn]
  obtain ⟨g', cap', w', hrun, h1, h2, h3⟩ := vrow_append (P := Tryd.prog) (t := 44) Tryd.underlying44 hi hz hsz hby rfl h (.int .i64 (z : Int)) rfl (by rw [hlen]; omega) (by rw [hlen]; unfold maxLen; omega)
  rw [hlen] at hrun
  have e1 : xs.map IV ++ [.int .i64 (z : Int)] = (xs ++ [z]).map IV := by rw [List.map_append]; rfl
  rw [e1] at h1
  unfold Oper.wpIn
  refine ⟨?_, ?_⟩
  · simp [Oper.about, hop, resolve, Target.leads, Sem.run_pure]
  · rw [Oper.semAt_plain F _ _ (by rw [hop]; intro c hc'; cases hc')]
    simp [execOp, hop, resolve, invoke, builtin, hs, hx, hrun, Result.andThen]
    exact hK' _ _ (hK g' cap' w' h1 h2 h3)
theorem cell_eqP {w w' : World} {b : Nat} (h : w'.heap[b]? = w.heap[b]?) (o : Nat) : w'.cell? ⟨b, o, none⟩ = w.cell? ⟨b, o, none⟩ := by
  simp only [World.cell?, h]
theorem KN.of_row {n₀ B1 B2 g : Nat} {A B : World} (hg : A.grownBy B (some g)) (h0 : n₀ ≤ g) (hs : n₀ ≤ A.heap.size) (h1 : B1 ≠ g) (h2 : B2 ≠ g) : KN n₀ B1 B2 A B :=
  ⟨grown_below hg h0 hs, fun v hv => (cell_eqP (hg.block B1 (World.block_lt_of_cell? A _ hv) (fun e => h1 (Option.some.inj e))) 0).trans hv, fun v hv => (cell_eqP (hg.block B2 (World.block_lt_of_cell? A _ hv) (fun e => h2 (Option.some.inj e))) 0).trans hv⟩
theorem vrow_there {w : World} {e : TypeId} {g cap : Nat} {xs : List Value} (h : VRow w e g cap xs) : w.there g 0 xs.length := by
  obtain ⟨cur, h1, h2, _, h4, _⟩ := h
  have ht := there_row h1 h4
  exact fun j hj => ht j (by omega)
theorem CK.thereP {A B : World} {g n : Nat} (h : CK A B) (ht : A.there g 0 n) : B.there g 0 n := fun j hj => by
  obtain ⟨h1, h2⟩ := ht j hj
  obtain ⟨v, hv⟩ := Option.isSome_iff_exists.1 h1
  exact ⟨by rw [h.cell hv]; rfl, (h.frozen hv).trans h2⟩
set_option maxRecDepth 100000 in
theorem results_pt (tmps : Array Value) (w : World) (b1 b2 : Nat) (v : Value) (n : Int) (h4 : tmps.getD 4 undef = .pointer (some ⟨b1, 0, none⟩)) (h5 : tmps.getD 5 undef = .pointer (some ⟨b2, 0, none⟩)) (c1 : w.cell? ⟨b1, 0, none⟩ = some v) (c2 : w.cell? ⟨b2, 0, none⟩ = some (.int .i64 n)) : (results Tryd.f42 tmps).run Tryd.prog w = .ok (.tuple #[v, .int .i64 n]) w := by
  have h4' : tmps[4]?.getD undef = .pointer (some ⟨b1, 0, none⟩) := by simpa using h4
  have h5' : tmps[5]?.getD undef = .pointer (some ⟨b2, 0, none⟩) := by simpa using h5
  simp [results, Tryd.results42, h4', h5', asAddr, isAgg, run_underlying Tryd.underlying44, run_underlying Tryd.underlying2, go_sem, c1, c2]
theorem shlU_op {op : Oper} {a : Act} {x y : Operand} {k : Nat} (ho : op.op = .binOp .shl 25 x y 2) (hx : a.eval x = .int .u64 1) (hy : a.eval y = .int .i64 k) (hk : k < 64) (w : World) :
    (execOp a.eval op).run Tryd.prog w = .ok (.value (.int .u64 (IntKind.u64.wrap (2 ^ k)))) w := by
  have h1 : (k : Int) < 64 := by omega
  unfold execOp
  simp only [ho, hx, hy]
  go_simp
theorem orU_op {op : Oper} {a : Act} {x y : Operand} {u v : Int} (ho : op.op = .binOp .or 25 x y 25) (hx : a.eval x = .int .u64 u) (hy : a.eval y = .int .u64 v) (w : World) :
    (execOp a.eval op).run Tryd.prog w = .ok (.value (.int .u64 (bits .or .u64 u v))) w := by
  unfold execOp
  simp only [ho, hx, hy]
  go_simp
theorem stU64 {op : Oper} {a : Act} {x y : Operand} {w : World} {b o : Nat} {v : Int} {u : Value} (ho : op.op = .store 25 x y) (hx : a.eval x = .pointer (some ⟨b, o, none⟩)) (hy : a.eval y = .int .u64 v) (hu : w.cell? ⟨b, o, none⟩ = some u) (hf : w.frozen? ⟨b, o, none⟩ = false) :
    (execOp a.eval op).run Tryd.prog w = .ok .skip (w.setCell ⟨b, o, none⟩ (.int .u64 v)) := by
  unfold execOp
  simp only [ho, hx, hy]
  go_simp
set_option maxRecDepth 100000 in
set_option maxHeartbeats 4000000 in
theorem pathFrom_any (G : Gd) (c : Nat) (hc : c < 64) (hcb : isB G c = true) (hv : validB G = true) (p : Nat) (w : World) (hp : GrdAt w p 0 G) (hpl : p < w.heap.size) (hG : GdOk G) :
    Calls Tryd.prog 42 #[.pointer (some ⟨p, 0, none⟩), .int .i64 c] w fun e w' => ∃ q cap, e = .returned (.tuple #[.slice q (ptV G c).1.length cap, .int .i64 (if (ptV G c).2 = true then 0 else 4)]) ∧ CellsI w' q (ptV G c).1 ∧ ((ptV G c).1.length = 0 ∨ ∃ g, q = some ⟨g, 0, none⟩ ∧ w.heap.size ≤ g ∧ g < w'.heap.size ∧ w'.there g 0 (ptV G c).1.length) ∧ Below w.heap.size w w' := by
  obtain ⟨LP, hLP⟩ : ∃ L, (ptV G c).1 = L := ⟨_, rfl⟩
  obtain ⟨n4, hn4⟩ : ∃ n : Int, (if (ptV G c).2 = true then (0 : Int) else 4) = n := ⟨_, rfl⟩
  obtain ⟨rr, hrr⟩ : ∃ r, LP.length = r := ⟨_, rfl⟩
  rw [hLP, hn4, hrr]
  have HLP := Lib.hid hLP
  have HN4 := Lib.hid hn4
  have HRR := Lib.hid hrr
  clear hLP hn4 hrr
  refine (callsIn_wide (n := 6)).1 (callsIn_of_wp_marks Tryd.func42 rfl trivial ?_ rfl)
  simp only [Tryd.ntmps42, List.size_toArray, List.length_cons, List.length_nil, Nat.reduceAdd, Nat.reduceSub, Array.replicate_succ, Array.replicate_zero, List.push_toArray, List.append_toArray, List.nil_append, List.cons_append]
  refine wpIn_wide.2 ?_
  go_upto_region 3 with (fail)
  obtain ⟨X, hX, zX, x0, xr1, xr2, xo, xp, xb, bX⟩ := pt_boxes p w
  rw [hX]
  clear hX
  have gp := hp.below bX hpl
  have HB := Lib.hid bX
  have GP := Lib.hid gp
  have HV := Lib.hid hv
  have HG := Lib.hid hG
  have HCB := Lib.hid hcb
  have hpX : p < X.heap.size := by omega
  have HPI := Lib.hid (show PtI G w.heap.size [] X from ⟨⟨_, 0, xp, xo, .inl rfl⟩, ⟨[], xb, fun j => Iff.rfl, fun j hj => by cases hj⟩, xr1, xr2, fun j hj => by cases hj⟩)
  obtain ⟨ji, hji, hjz, hjs, hjb⟩ := info_parts (P := Tryd.prog) (e := 2) (z := .int .i64 0) (size := 1) (bytes := 8) (by kernel_rfl)
  clear hp hG gp bX hv hcb xr1 xr2 xo xp xb
  go_wp2_with (go_at_call 68; refine (waterFrom_any p c _).mono ?_; rintro e w' ⟨rfl, rfl⟩)
  obtain ⟨Y, hY, zY, q1, q2, hbY⟩ := two_boxes #[.pointer (some ⟨p, 0, none⟩)] #[.int .i64 c] 57 2 X
  rw [hY]
  clear hY
  have b2 := q1 0 _ rfl
  have b1 := q2 0 _ rfl
  rw [Nat.zero_add, zX] at b1 b2
  have y0 : Y.cell? ⟨w.heap.size, 0, none⟩ = some (.pointer (some ⟨p, 0, none⟩)) := kc x0 (by omega) _ hbY
  have GY := Lib.hid (GP.out.below hbY hpX)
  have HY := Lib.hid (HPI.out.below hbY)
  have HBY := Lib.hid (HB.out.trans (hbY.mono (by omega)))
  try simp only [zX]
  clear x0 GP HB HPI q1 q2 hbY
  refine (wpIn_wide (n := 6)).1 (wp_way G c hc HCB.out HV.out HG.out 12 13 8 (w.heap.size + 1 + 1 + 1 + 1 + 1 + 1 + 1) (w.heap.size + 1 + 1 + 1 + 1 + 1 + 1) (w.heap.size + 1) p (by omega) rfl b1 b2 GY.out (by omega)
    (fun pre W2 => PtI G w.heap.size pre W2) (fun c pre W2 => PtX G w.heap.size c pre W2)
    (fun s A B row hg hr h => h.grown hg hr) (fun c s A B row hg hr h => h.grown hg hr) HY.out ?assign ?body ?done ?stop)
  case assign =>
    intro l x W K hK
    simp only [List.setIfInBounds_toArray, List.set_cons_zero, List.set_cons_succ] at hK ⊢
    gi_wp2
    exact hK
  case body =>
    rintro l pre x W2 hI hB2 hpl65
    simp only [List.setIfInBounds_toArray, List.set_cons_zero, List.set_cons_succ]
    obtain ⟨y, hy⟩ : ∃ y, x.1 = y := ⟨_, rfl⟩
    have hy64 : y < 64 := by rw [← hy]; exact x.2.1
    rw [hy]
    have HYY := Lib.hid hy
    have HI := Lib.hid hI
    have HB2 := Lib.hid hB2
    obtain ⟨V, hVb, hVm, hV64⟩ := hI.been
    have c0 : W2.cell? ⟨w.heap.size, 0, none⟩ = some (.pointer (some ⟨p, 0, none⟩)) := kc y0 (by omega) _ hB2.below
    have c7 := hVb.cell
    have gp := GY.out.below hB2.below (by omega)
    have hpW : p < W2.heap.size := by have := hB2.below.size; omega
    have hMl := maskL_lt hV64
    have hyi : (y : Int) < 64 := by omega
    have hsz : w.heap.size + 1 ≤ W2.heap.size := by have := hB2.below.size; omega
    by_cases hyV : y ∈ V
    · have hbt : (bits .and .u64 (((maskL V : Nat) : Int) / 2 ^ y) 1 == 1) = true := by rw [bit_test _ _ hMl, maskL_bit]; simp [hyV]
      gi_wp2
      exact ⟨KeepsOthers.refl _, .inr ⟨wys pre, y, by rw [wys_snoc, HYY.out], (hVm y).1 hyV⟩, HB2.out⟩
    · have hbt : (bits .and .u64 (((maskL V : Nat) : Int) / 2 ^ y) 1 == 1) = false := by rw [bit_test _ _ hMl, maskL_bit]; simp [hyV]
      cases hok : okW G y
      · have HOKY := Lib.hid hok
        have HR1 := Lib.hid hI.r1
        have HR2 := Lib.hid hI.r2
        clear hok hI hVb
        gi_wp2_with (first | (refine ⟨trivial, ?_⟩; gi_at_call 69; refine (callsIn_wide.2 (implHasFin_any G y hy64 HV.out p W2 gp hpW HG.out)).mono ?_; rintro e w1 ⟨rfl, hb1⟩; rw [nbFin_ok, HOKY.out]; have HB1 := Lib.hid hb1; have k1 := (HR1.out.kept (grown_of_below hb1) (by simp)).cell; have f1 := (HR1.out.kept (grown_of_below hb1) (by simp)).frozen; have k2 := (HR2.out.kept (grown_of_below hb1) (by simp)).cell; have f2 := (HR2.out.kept (grown_of_below hb1) (by simp)).frozen; clear hb1) | (refine ⟨trivial, ?_⟩))
        have hb1 := HB1.out
        have x1 := HR1.out.kept (grown_of_below hb1) (by simp)
        have x2 := HR2.out.kept (grown_of_below hb1) (by simp)
        have z1 : Boxed ((w1.setCell ⟨w.heap.size + 1, 0, none⟩ (.slice none 0 0)).setCell ⟨w.heap.size + 1 + 1, 0, none⟩ (.int .i64 4)) (w.heap.size + 1) 44 (.slice none 0 0) := (x1.set (.slice none 0 0)).kept (grownBy_setCell' _ _ _) (fun e => by have := Option.some.inj e; omega)
        have z2 : Boxed ((w1.setCell ⟨w.heap.size + 1, 0, none⟩ (.slice none 0 0)).setCell ⟨w.heap.size + 1 + 1, 0, none⟩ (.int .i64 4)) (w.heap.size + 1 + 1) 2 (.int .i64 4) := (x2.kept (grownBy_setCell' w1 (w.heap.size + 1) (.slice none 0 0)) (fun e => by have := Option.some.inj e; omega)).set (.int .i64 4)
        have k1 : KN (w.heap.size + 1) (w.heap.size + 1 + 1 + 1 + 1 + 1 + 1 + 1) (w.heap.size + 1 + 1 + 1 + 1 + 1 + 1) W2 w1 := KN.of_below hsz hb1
        have k2 : KN (w.heap.size + 1) (w.heap.size + 1 + 1 + 1 + 1 + 1 + 1 + 1) (w.heap.size + 1 + 1 + 1 + 1 + 1 + 1) w1 (w1.setCell ⟨w.heap.size + 1, 0, none⟩ (.slice none 0 0)) := KN.setCell (Nat.le_refl _) (by show w.heap.size + 1 ≠ _; omega) (by show w.heap.size + 1 ≠ _; omega)
        have k3 : KN (w.heap.size + 1) (w.heap.size + 1 + 1 + 1 + 1 + 1 + 1 + 1) (w.heap.size + 1 + 1 + 1 + 1 + 1 + 1) (w1.setCell ⟨w.heap.size + 1, 0, none⟩ (.slice none 0 0)) ((w1.setCell ⟨w.heap.size + 1, 0, none⟩ (.slice none 0 0)).setCell ⟨w.heap.size + 1 + 1, 0, none⟩ (.int .i64 4)) := KN.setCell (by show w.heap.size + 1 ≤ w.heap.size + 1 + 1; omega) (by show w.heap.size + 1 + 1 ≠ _; omega) (by show w.heap.size + 1 + 1 ≠ _; omega)
        exact ⟨((KeepsOthers.of_below' hb1).trans (KeepsOthers.setCell _ _ _)).trans (KeepsOthers.setCell _ _ _), .inl ⟨rfl, z1, z2, y, by rw [wys_snoc, HYY.out]; simp, HOKY.out⟩, (HB2.out.trans k1).trans (k2.trans k3)⟩
      · have HOKY := Lib.hid hok
        clear hok hI hVb
        gi_upto_region 8 with (first | (refine ⟨trivial, ?_⟩; gi_at_call 69; refine (callsIn_wide.2 (implHasFin_any G y hy64 HV.out p W2 gp hpW HG.out)).mono ?_; rintro e w1 ⟨rfl, hb1⟩; rw [nbFin_ok, HOKY.out]; have HB1 := Lib.hid hb1; clear hb1) | (refine ⟨trivial, ?_⟩))
        obtain ⟨⟨g, cap, p1, p2, p3⟩, ⟨V1, v1, v2, v3⟩, r1, r2, ok⟩ := HI.out.below HB1.out
        have HMB := Lib.hid (show Below w.heap.size w w1 from HBY.out.trans ((HB2.out.below.mono (by omega)).trans (HB1.out.mono (by omega))))
        have hl1 : w.heap.size + 1 + 1 + 1 + 1 + 1 + 1 + 1 + 1 ≤ w1.heap.size := by have h1 := HB1.out.size; have h2 := HB2.out.below.size; omega
        have hM1 := maskL_lt v3
        have c5 := v1.cell
        have f5 := v1.frozen
        obtain ⟨M1, hM⟩ : ∃ M1 : Int, ((maskL V1 : Nat) : Int) = M1 := ⟨_, rfl⟩
        have HOR := Lib.hid (show bits .or .u64 M1 (IntKind.u64.wrap (2 ^ y)) = ((maskL (y :: V1) : Nat) : Int) by rw [← hM, or_bit _ _ hM1 hy64]; rfl)
        rw [hM] at c5
        refine wpIn_region_calm (ops' := regOf Tryd.f42 8) [0, 1, 2, 3] [4] (.run 4 .fin) (Quiet w1) [(0, One (.int .u64 M1)), (1, One (.int .i64 (y : Int))), (2, One (.int .u64 (IntKind.u64.wrap (2 ^ y)))), (3, One (.int .u64 (bits .or .u64 M1 (IntKind.u64.wrap (2 ^ y)))))] (by kernel_rfl) (by kernel_rfl) (by kernel_rfl) (by kernel_rfl) (by kernel_rfl) (by kernel_rfl) (by kernel_rfl) (by kernel_rfl) (by kernel_rfl) rfl ((Quiet.refl _).drewN 1) ?_
        refine calm_read (some 23) (by kernel_rfl) (by kernel_rfl) (by kernel_rfl) (fun w' hw' => load_cell (ty := 25) (x := .tmp 7) (b := w.heap.size + 1 + 1 + 1 + 1 + 1) (o := 0) (by kernel_rfl) (by kernel_rfl) Tryd.underlying25 rfl (kq c5 w' hw')) ?_
        refine calm_pure (some 24) (by kernel_rfl) (by kernel_rfl) (by kernel_rfl) (fun _ => (by kernel_rfl)) ?_
        refine calm_pure (some 25) (by kernel_rfl) (by kernel_rfl) (by kernel_rfl) (fun w' => shlU_op (x := .const (.int .u64 1)) (y := .tmp 24) (by kernel_rfl) (by kernel_rfl) (by kernel_rfl) hy64 w') ?_
        refine calm_pure (some 26) (by kernel_rfl) (by kernel_rfl) (by kernel_rfl) (fun w' => orU_op (x := .tmp 23) (y := .tmp 25) (by kernel_rfl) (by kernel_rfl) (by kernel_rfl) w') ?_
        refine calm_end fun w' hw' => plan_do none undef (w'.setCell ⟨w.heap.size + 1 + 1 + 1 + 1 + 1, 0, none⟩ (.int .u64 (bits .or .u64 M1 (IntKind.u64.wrap (2 ^ y))))) (by kernel_rfl) (by kernel_rfl) (by kernel_rfl) (.inr ⟨stU64 (x := .tmp 7) (y := .tmp 26) (by kernel_rfl) (by kernel_rfl) (by kernel_rfl) (kq c5 w' hw') (hw'.frozen f5), rfl⟩) trivial (plan_end (Clean.normal ?_))
        simp only [Act.put, List.setIfInBounds_toArray, List.set_cons_zero, List.set_cons_succ]
        rw [HOR.out]
        have hbw := hw'.below w1.heap.size
        have HW' := Lib.hid hbw
        have gq := grown_of_below hbw
        have p1' := p1.kept gq (by simp)
        have p2' := p2.kept (hbw.block g p2.lt)
        have v1' := v1.kept gq (by simp)
        have r1' := r1.kept gq (by simp)
        have r2' := r2.kept gq (by simp)
        have gs := grownBy_setCell' w' (w.heap.size + 1 + 1 + 1 + 1 + 1) (.int .u64 ((maskL (y :: V1) : Nat) : Int))
        have vb := v1'.set (.int .u64 ((maskL (y :: V1) : Nat) : Int))
        have pb := p1'.kept gs (fun e => by have := Option.some.inj e; omega)
        have pr := p2'.kept (gs.block g p2'.lt (fun e => by have := Option.some.inj e; omega))
        have q1 := r1'.kept gs (fun e => by have := Option.some.inj e; omega)
        have q2 := r2'.kept gs (fun e => by have := Option.some.inj e; omega)
        have kn1 : KN (w.heap.size + 1) (w.heap.size + 1 + 1 + 1 + 1 + 1 + 1 + 1) (w.heap.size + 1 + 1 + 1 + 1 + 1 + 1) W2 w' := (KN.of_below hsz HB1.out).trans (KN.of_below (Nat.le_trans hsz HB1.out.size) hbw)
        have kn2 : KN (w.heap.size + 1) (w.heap.size + 1 + 1 + 1 + 1 + 1 + 1 + 1) (w.heap.size + 1 + 1 + 1 + 1 + 1 + 1) w' (w'.setCell ⟨w.heap.size + 1 + 1 + 1 + 1 + 1, 0, none⟩ (.int .u64 ((maskL (y :: V1) : Nat) : Int))) := KN.setCell (by show w.heap.size + 1 ≤ w.heap.size + 1 + 1 + 1 + 1 + 1; omega) (by show w.heap.size + 1 + 1 + 1 + 1 + 1 ≠ _; omega) (by show w.heap.size + 1 + 1 + 1 + 1 + 1 ≠ _; omega)
        have ko1 : KeepsOthers W2 (w'.setCell ⟨w.heap.size + 1 + 1 + 1 + 1 + 1, 0, none⟩ (.int .u64 ((maskL (y :: V1) : Nat) : Int))) := ((KeepsOthers.of_below' HB1.out).trans (KeepsOthers.of_below' hbw)).trans (KeepsOthers.setCell _ _ _)
        have hl2 : w.heap.size + 1 + 1 + 1 + 1 + 1 + 1 + 1 + 1 ≤ (w'.setCell ⟨w.heap.size + 1 + 1 + 1 + 1 + 1, 0, none⟩ (.int .u64 ((maskL (y :: V1) : Nat) : Int))).heap.size := Nat.le_trans (Nat.le_trans hl1 hbw.size) (kn2.below.size)
        obtain ⟨U, hU⟩ : ∃ U, w'.setCell ⟨w.heap.size + 1 + 1 + 1 + 1 + 1, 0, none⟩ (.int .u64 ((maskL (y :: V1) : Nat) : Int)) = U := ⟨_, rfl⟩
        rw [hU] at vb pb pr q1 q2 kn2 ko1 hl2 ⊢
        have c6 := pb.cell
        have f6 := pb.frozen
        have KK := Lib.hid (kn1.trans kn2)
        have KO := Lib.hid ko1
        have hg45 : g ≠ w.heap.size + 1 + 1 + 1 + 1 := by omega
        have hg5 : g ≠ w.heap.size + 1 + 1 + 1 + 1 + 1 := by omega
        have hg1 : g ≠ w.heap.size + 1 := by omega
        have hg2 : g ≠ w.heap.size + 1 + 1 := by omega
        have hg6 : w.heap.size + 1 + 1 + 1 + 1 + 1 + 1 ≠ g := by omega
        have hg7 : w.heap.size + 1 + 1 + 1 + 1 + 1 + 1 + 1 ≠ g := by omega
        have hg0 : w.heap.size + 1 ≤ g := by omega
        obtain ⟨m, hm⟩ : ∃ m, (wys pre).length = m := ⟨_, rfl⟩
        have hm65 : m < 65 := by rw [← hm, wys_len]; exact hpl65
        rw [hm] at c6
        have PB := Lib.hid pb
        have PR := Lib.hid pr
        have VB := Lib.hid vb
        have Q1 := Lib.hid q1
        have Q2 := Lib.hid q2
        have P3 := Lib.hid p3
        have V2 := Lib.hid v2
        have V3 := Lib.hid v3
        have OKK := Lib.hid ok
        have HMM := Lib.hid hm
        have HL2 := Lib.hid hl2
        clear hU pb pr vb q1 q2 p3 v2 v3 ok hm hl2 gs p1' p2' v1' r1' r2' p1 p2 v1 r1 r2 kn1 kn2 ko1 gq hbw hw' c5 f5 hM hM1 hl1 c0 c7 gp hVm hV64 hMl hsz
        gi_wp2_with (refine wpListIn_appI rfl _ _ rfl PR.out HMM.out (by omega) y rfl (by simp [go_sem]; done) ?_; intro g2 cap2 w3 h1 h2 h3; have H1 := Lib.hid h1; have H2 := Lib.hid h2; have H3 := Lib.hid h3; have PB3 := Lib.hid (PB.out.kept h2 (fun e => hg45 (Option.some.inj e).symm)); have c63 := PB3.out.cell; have f63 := PB3.out.frozen; clear h1 h2 h3 c6 f6)
        have h1 := H1.out
        have h2 := H2.out
        have h3 := H3.out
        have hp3 := P3.out
        have hl2 := HL2.out
        have hg2c : g2 = w.heap.size + 1 + 1 + 1 ∨ w.heap.size + 8 ≤ g2 := by rcases h3 with h3 | h3 <;> omega
        have gs3 := grownBy_setCell' w3 (w.heap.size + 1 + 1 + 1 + 1) (.slice (some ⟨g2, 0, none⟩) (m + 1) cap2)
        have e1 : (wys (pre ++ [x])).length = m + 1 := by rw [wys_snoc, List.length_append, HMM.out]; rfl
        have pth := PB3.out.set (.slice (some ⟨g2, 0, none⟩) (m + 1) cap2)
        have rw2 := h1.kept (gs3.block g2 h1.lt (fun e => by have := Option.some.inj e; omega))
        have bn := (VB.out.kept h2 (fun e => hg5 (Option.some.inj e).symm)).kept gs3 (fun e => by have := Option.some.inj e; omega)
        have s1 := (Q1.out.kept h2 (fun e => hg1 (Option.some.inj e).symm)).kept gs3 (fun e => by have := Option.some.inj e; omega)
        have s2 := (Q2.out.kept h2 (fun e => hg2 (Option.some.inj e).symm)).kept gs3 (fun e => by have := Option.some.inj e; omega)
        have kn3 : KN (w.heap.size + 1) (w.heap.size + 1 + 1 + 1 + 1 + 1 + 1 + 1) (w.heap.size + 1 + 1 + 1 + 1 + 1 + 1) U w3 := KN.of_row h2 hg0 (by omega) hg7 hg6
        have kn4 : KN (w.heap.size + 1) (w.heap.size + 1 + 1 + 1 + 1 + 1 + 1 + 1) (w.heap.size + 1 + 1 + 1 + 1 + 1 + 1) w3 (w3.setCell ⟨w.heap.size + 1 + 1 + 1 + 1, 0, none⟩ (.slice (some ⟨g2, 0, none⟩) (m + 1) cap2)) := KN.setCell (by show w.heap.size + 1 ≤ w.heap.size + 1 + 1 + 1 + 1; omega) (by show w.heap.size + 1 + 1 + 1 + 1 ≠ _; omega) (by show w.heap.size + 1 + 1 + 1 + 1 ≠ _; omega)
        have ko3 : KeepsOthers U w3 := KeepsOthers.of_grownBy h2 fun j o ej hj => by
          obtain ⟨cur, hcur, _⟩ := PR.out
          have e := Option.some.inj ej
          subst e
          rw [hcur] at hj
          cases hj; rfl
        refine ⟨(KO.out.trans ko3).trans (KeepsOthers.setCell _ _ _), KK.out.trans (kn3.trans kn4), ⟨⟨g2, cap2, by rw [e1]; exact pth, by rw [wys_snoc, HYY.out]; exact rw2, hg2c⟩, ⟨y :: V1, bn, fun j => ?_, fun j hj => ?_⟩, s1, s2, fun j hj => ?_⟩, HB2.out.trans (KK.out.trans (kn3.trans kn4))⟩
        · rw [List.mem_cons, wys_snoc, HYY.out, List.mem_append, V2.out j, List.mem_singleton]
          exact ⟨fun h => h.elim .inr .inl, fun h => h.elim .inr .inl⟩
        · rw [List.mem_cons] at hj
          rcases hj with rfl | hj
          · exact hy64
          · exact V3.out j hj
        · rw [wys_snoc, HYY.out, List.mem_append, List.mem_singleton] at hj
          rcases hj with hj | rfl
          · exact OKK.out j hj
          · exact HOKY.out
  case done =>
    rintro D W2 hD hI hB2 hK
    obtain ⟨⟨g, cap, p1, p2, p3⟩, _, r1, r2, ok⟩ := hI
    have HPT := Lib.hid (show ptV G c = (wayL G c, true) by unfold ptV; rw [if_pos (List.all_eq_true.2 ok)])
    obtain ⟨LL, hLL⟩ : ∃ LL, wayL G c = LL := ⟨_, rfl⟩
    rw [hLL] at p1 p2 HPT
    obtain ⟨m, hm⟩ : ∃ m, LL.length = m := ⟨_, rfl⟩
    rw [hm] at p1
    have HMM := Lib.hid hm
    have HB3 := Lib.hid (HBY.out.trans (hB2.below.mono (by omega)))
    have hwD : w.heap.size ≤ D := by omega
    have hD8 : w.heap.size + 1 + 1 + 1 + 1 + 1 + 1 + 1 + 1 ≤ D := by omega
    have c6 := p1.cell
    have c1 := r1.cell
    have f1 := r1.frozen
    have c2 := r2.cell
    have f2 := r2.frozen
    have P2 := Lib.hid p2
    have R1 := Lib.hid r1
    have R2 := Lib.hid r2
    have hg1 : g ≠ w.heap.size + 1 := by omega
    have hg2 : g ≠ w.heap.size + 1 + 1 := by omega
    have hgw : w.heap.size ≤ g := by omega
    clear p1 p2 r1 r2 ok hLL hm b1 b2 y0 zY zX hD
    go_wp2
    have gz1 := grownBy_setCell' W2 (w.heap.size + 1) (.slice (some ⟨g, 0, none⟩) m cap)
    have gz2 := grownBy_setCell' (W2.setCell ⟨w.heap.size + 1, 0, none⟩ (.slice (some ⟨g, 0, none⟩) m cap)) (w.heap.size + 1 + 1) (.int .i64 0)
    have z1 := (R1.out.set (.slice (some ⟨g, 0, none⟩) m cap)).kept gz2 (fun e => by have := Option.some.inj e; omega)
    have z2 := (R2.out.kept gz1 (fun e => by have := Option.some.inj e; omega)).set (.int .i64 0)
    have zr := P2.out.kept (gz1.block g P2.out.lt (fun e => hg1 (Option.some.inj e)))
    have zr2 := zr.kept (gz2.block g zr.lt (fun e => hg2 (Option.some.inj e)))
    have hDl : D < W2.heap.size := (Array.getElem?_eq_some_iff.1 hK).1
    have hK1 := (gz1.block D hDl (fun e => by have := Option.some.inj e; omega)).trans hK
    have hK2 := (gz2.block D (Array.getElem?_eq_some_iff.1 hK1).1 (fun e => by have := Option.some.inj e; omega)).trans hK1
    have HBZ := (HB3.out.setCell (p := ⟨w.heap.size + 1, 0, none⟩) (by show w.heap.size ≤ w.heap.size + 1; omega) (.slice (some ⟨g, 0, none⟩) m cap)).setCell (p := ⟨w.heap.size + 1 + 1, 0, none⟩) (by show w.heap.size ≤ w.heap.size + 1 + 1; omega) (.int .i64 0)
    have eL : LP = LL := by rw [← HLP.out, HPT.out]
    have e4 : n4 = 0 := by rw [← HN4.out, HPT.out]; rfl
    have er : rr = m := by rw [← HRR.out, eL, HMM.out]
    subst eL e4 er
    have ht := vrow_there zr2
    rw [List.length_map, HMM.out] at ht
    exact ret_marks hK2 (fun W' hc => results_pt _ _ _ _ _ _ rfl rfl (hc.cell z1.cell) (hc.cell z2.cell)) (fun W' hc hb => ⟨some ⟨g, 0, none⟩, cap, rfl, fun i v hv => ⟨g, rfl, hc.cell (zr2.cell i _ (by rw [List.getElem?_map, hv]; rfl))⟩, .inr ⟨g, rfl, hgw, Nat.lt_of_lt_of_le zr2.lt hc.size, hc.thereP ht⟩, HBZ.trans (hb _ hwD)⟩)
  case stop =>
    rintro D e pre W2 hD hpre hX hB2 hK
    rcases hX with ⟨rfl, r1, r2, j, hj, hjo⟩ | ⟨q, y, rfl, hy⟩
    · have HPT := Lib.hid (show ptV G c = ([], false) by
        unfold ptV
        rw [if_neg]
        rw [List.all_eq_true]
        intro h
        rw [h j (hpre.subset hj)] at hjo
        cases hjo)
      have HB3 := Lib.hid (HBY.out.trans (hB2.below.mono (by omega)))
      have hwD : w.heap.size ≤ D := by omega
      gi_wp2
      have eL : LP = [] := by rw [← HLP.out, HPT.out]
      have e4 : n4 = 4 := by rw [← HN4.out, HPT.out]; rfl
      have er : rr = 0 := by rw [← HRR.out, eL]; rfl
      subst eL e4 er
      exact ret_marks hK (fun W' hc => results_pt _ _ _ _ _ _ rfl rfl (hc.cell r1.cell) (hc.cell r2.cell)) (fun W' hc hb => ⟨none, 0, rfl, cellsI_nilP _ _, .inl rfl, HB3.out.trans (hb _ hwD)⟩)
    · exfalso
      have hn := (wayL_nodup HV.out hc HCB.out).sublist hpre.sublist
      rw [List.nodup_append] at hn
      exact hn.2.2 y hy y (by simp) rfl

end Go.Proofs.YtjhaonfdapldcaaDoor
