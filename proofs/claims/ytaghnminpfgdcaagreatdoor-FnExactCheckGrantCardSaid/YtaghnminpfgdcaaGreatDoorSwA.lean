/- The program's swept: what recovers. No condition. · swept with the settled head itself: the program's sweep in order. Condition: the table of math/bits is laid. · The program's StepAtOnce. Condition: the table of math/bits is laid. -/
import Derived.Test.YtaghnminpfgdcaaGreatDoorSweepI
import Derived.Tactics
import Derived.Tactics2
import Derived.Defers
import Derived.Recover
import Derived.Laws.Pointers
namespace Go.Proofs.YtaghnminpfgdcaaGreatDoor

section
open Go Go.RowKit
set_option linter.unusedSimpArgs false
set_option linter.unusedVariables false

theorem ta_yes (w : World) : (Instr.typeAssert (.iface 245 (.agg #[])) 20 234 true).run Tryz.prog w = .ok (.tuple #[.iface 245 (.agg #[]), .bool true]) w := by kernel_rfl
theorem ta_nil (w : World) : (Instr.typeAssert .nilIface 20 234 true).run Tryz.prog w = .ok (.tuple #[.nilIface, .bool false]) w := by kernel_rfl

theorem mth_code (n : Nat) (w : World) : (method (n + 1) 245 (.agg #[]) "loop.example/g01288/impl.code").run Tryz.prog w = .ok (211, .agg #[]) w := by kernel_rfl

set_option maxRecDepth 100000 in
theorem swCatch (p : Addr) (x : Int) (older : List PanicEntry) (w : World) (hc : w.cell? p = some (.int .i64 x)) (hz : w.frozen? p = false) :
    CallsD Tryz.prog 155 #[.pointer (some p)] (.panicking ({ v := noGround, recovered := false } :: older)) w fun e u' w' =>
      e = .returned (.tuple #[]) ∧ u' = .panicking ({ v := noGround, recovered := true } :: older) ∧ ∃ V, Below w.heap.size w V ∧ w' = V.setCell p (.int .i64 4) := by
  refine callsD_of_wpS Tryz.func155 rfl fun c₀ cs hu => ?_
  apply wpS_seq
  apply wpS_region
  simp [wpOpsS, go_sem, recoverD, hu, Tryz.ntmps155, Exit.thenS, noGround]
  refine wpS_of_wp ?_
  simp only [Array.replicate_succ, Array.replicate_zero, List.push_toArray, List.append_toArray, List.nil_append, List.cons_append, List.setIfInBounds_toArray, List.set_cons_zero, List.set_cons_succ]
  have ht := ta_yes
  have hm := mth_code
  have hp := World.block_lt_of_cell? w p hc
  have bA : Below w.heap.size w (w.alloc (.cells #[] 245)) := (Below.refl _ _).alloc (Nat.le_refl _) _
  have hc2 := (bA.cell (p := p) hp).trans hc
  have hz2 := (bA.frozen (p := p) hp).trans hz
  have HBA := Lib.hid bA
  clear hc hz bA
  go_wp2
  simp [bodyPostS, results, Tryz.results155]
  exact ⟨_, HBA.out, rfl⟩

set_option maxRecDepth 100000 in
theorem swIdle (p : Addr) (w : World) :
    CallsD Tryz.prog 155 #[.pointer (some p)] .returning w fun e u' w' => e = .returned (.tuple #[]) ∧ u' = .returning ∧ w' = w := by
  refine callsD_of_wpS Tryz.func155 rfl fun c₀ cs hu => ?_
  apply wpS_seq
  apply wpS_region
  simp [wpOpsS, go_sem, recoverD, hu, Tryz.ntmps155, Exit.thenS]
  refine wpS_of_wp ?_
  simp only [Array.replicate_succ, Array.replicate_zero, List.push_toArray, List.append_toArray, List.nil_append, List.cons_append, List.setIfInBounds_toArray, List.set_cons_zero, List.set_cons_succ]
  have ht := ta_nil
  go_wp2
  cases c₀
  simp_all [bodyPostS, results, Tryz.results155]

/-- The code's variable of attempt, in a world of its own. -/
theorem code_cell (w : World) : ∃ W, w.alloc (.cells #[.int .i64 0] 2) = W ∧ W.heap.size = w.heap.size + 1 ∧ W.cell? ⟨w.heap.size, 0, none⟩ = some (.int .i64 0) ∧ W.frozen? ⟨w.heap.size, 0, none⟩ = false ∧ Below w.heap.size w W := by
  refine ⟨_, rfl, World.size_alloc _ _, cell_of_row _ _ 0 _ _ _ (heap_alloc_last _ _), ?_, (Below.refl _ _).alloc (Nat.le_refl _) _⟩
  have := (there_row (n := 1) (heap_alloc_last w (.cells #[.int .i64 0] 2)) rfl 0 (by omega)).2
  rwa [Nat.zero_add] at this

theorem results_tt {P : Program} {fn : Func} {p q : Tmp} (h : fn.results = #[.tmp p, .tmp q]) (tmps : Array Value) (w : World) (x y : Value) (hp : tmps.getD p undef = x) (hq : tmps.getD q undef = y) :
    (results fn tmps).run P w = .ok (.tuple #[x, y]) w := by
  have hp' : tmps[p]?.getD undef = x := by simpa using hp
  have hq' : tmps[q]?.getD undef = y := by simpa using hq
  simp [results, h, hp', hq']
theorem results_tc {P : Program} {fn : Func} {p r : Tmp} {ti : TypeId} {Di : TypeDesc} (h : fn.results = #[.tmp p, .cell r ti]) (tmps : Array Value) (w : World) (c : Nat) (x : Value) (n : Int)
    (hp : tmps.getD p undef = x) (hr : tmps.getD r undef = .pointer (some ⟨c, 0, none⟩)) (hn : w.cell? ⟨c, 0, none⟩ = some (.int .i64 n)) (hui : P.underlying ti = some Di) (hdi : Di.isRow = false) :
    (results fn tmps).run P w = .ok (.tuple #[x, .int .i64 n]) w := by
  have hp' : tmps[p]?.getD undef = x := by simpa using hp
  have hr' : tmps[r]?.getD undef = .pointer (some ⟨c, 0, none⟩) := by simpa using hr
  have hagg : (isAgg ti).run P w = .ok false w := by
    unfold isAgg
    rw [Sem.run_bind, run_underlying hui w]
    cases Di <;> simp_all
  have h2 : (loadVar ti ⟨c, 0, none⟩).run P w = .ok (.int .i64 n) w := by
    unfold loadVar
    go_simp
  simp [results, h, hp', hr', asAddr, h2]
theorem results_gft {P : Program} {fn : Func} {p q r : Tmp} {ty : TypeId} {D : TypeDesc} (h : fn.results = #[.cell p ty, .tmp q, .tmp r]) (tmps : Array Value) (w : World) (b : Nat) (G : Gd) (m : Nat) (n : Int)
    (hp : tmps.getD p undef = .pointer (some ⟨b, 0, none⟩)) (hq : tmps.getD q undef = .float .f32 m) (hr : tmps.getD r undef = .int .i64 n) (hc : w.rangeAt b 0 (GrdL G))
    (hu : P.underlying ty = some D) (hd : D.isRow = true) (hi : (P.info? ty).map (·.size) = some 195) :
    (results fn tmps).run P w = .ok (.tuple #[.agg (Grd G), .float .f32 m, .int .i64 n]) w := by
  have hp' : tmps[p]?.getD undef = .pointer (some ⟨b, 0, none⟩) := by simpa using hp
  have hq' : tmps[q]?.getD undef = .float .f32 m := by simpa using hq
  have hr' : tmps[r]?.getD undef = .int .i64 n := by simpa using hr
  have := run_loadVar_mid (P := P) w b 0 ty (GrdL G) D hc hu hd (by rw [GrdL_length]; exact hi)
  simp [results, h, hp', hq', hr', asAddr, this, Grd]
/-- A ground, one cell and a ground are boxed. -/
theorem gxg_box (G H : Gd) (x : Value) (t u v : TypeId) (w : World) : ∃ W, ((w.alloc (.cells (Grd G) t)).alloc (.cells #[x] u)).alloc (.cells (Grd H) v) = W ∧ W.heap.size = w.heap.size + 1 + 1 + 1 ∧ GBox W w.heap.size G ∧ W.cell? ⟨w.heap.size + 1, 0, none⟩ = some x ∧ GBox W (w.heap.size + 1 + 1) H ∧ Below w.heap.size w W := by
  obtain ⟨W1, h1, z1, g1, b1⟩ := gbox1 G t w
  rw [h1]
  obtain ⟨W2, h2⟩ : ∃ W2, W1.alloc (.cells #[x] u) = W2 := ⟨_, rfl⟩
  have z2 : W2.heap.size = w.heap.size + 1 + 1 := by rw [← h2]; simp [z1]
  have b2 : Below W1.heap.size W1 W2 := by rw [← h2]; exact (Below.refl _ _).alloc (Nat.le_refl _) _
  have c2 : W2.cell? ⟨w.heap.size + 1, 0, none⟩ = some x := by rw [← h2, ← z1]; exact cell_of_row _ _ 0 _ _ _ (heap_alloc_last W1 _)
  rw [h2]
  obtain ⟨W3, h3, z3, g3, b3⟩ := gbox1 H v W2
  rw [z2] at g3
  exact ⟨W3, h3, by rw [z3, z2], (g1.below b2 (by omega)).below b3 (by omega), kc c2 (by omega) _ b3, g3, b1.trans ((b2.mono (by omega)).trans (b3.mono (by omega)))⟩
theorem there_away {W V : World} {B n b k : Nat} (h : W.there b 0 k) (ha : AwayC B n W V) (hb : b < n) (hne : b ≠ B) : V.there b 0 k := fun j hj => by
  obtain ⟨v, hv⟩ := Option.isSome_iff_exists.1 (h j hj).1
  have h1 := ha.cell ⟨b, 0 + j, none⟩ v hb hne hv
  exact ⟨by rw [h1.1]; rfl, h1.2.trans (h j hj).2⟩

/-- swept's closure: the sweep of the ground that it holds. -/
theorem sweptMade (nx : Gd → Nat → Option Nat) (nf : Nat) (caps : Array Value) (hen : ∀ args w, (callFunc nf args).run Tryz.prog w = .ok (.enter nf args) w) (B c : Nat) (w : World)
    (hnx : ∀ (H : Gd) (k : Nat) (V : World), k < 64 → isB H k = true → validB H = true → GdOk H → GBox V B H → AwayC B w.heap.size w V → Below B w V →
      Calls Tryz.prog nf (#[.pointer (some ⟨B, 0, none⟩), .int .i64 k] ++ caps) V fun e V' => ∃ b, e = .returned (.float .f32 b) ∧ num .f32 b = nx H k ∧ Below V.heap.size V V')
    (G : Gd) (hB : GBox w B G) (hv : validB G = true) (hG : GdOk G) (hT : TabAt w) (hBt : 1 < B) (hc : w.cell? ⟨c, 0, none⟩ = some (.func (.func nf) #[] caps)) :
    Calls Tryz.prog 140 #[.pointer (some ⟨B, 0, none⟩), .pointer (some ⟨c, 0, none⟩)] w fun e w' => Below B w w' ∧ AwayC B w.heap.size w w' ∧
      (((swp nx G (bitsL (cellsN G))).2.1 = true ∧ e = .returned (.tuple #[.float .f32 (swp nx G (bitsL (cellsN G))).2.2, .int .i64 0]) ∧ GBox w' B (swp nx G (bitsL (cellsN G))).1) ∨
       ((swp nx G (bitsL (cellsN G))).2.1 = false ∧ e = .panicked [{ v := noGround, recovered := false }])) := by
  have T := Lib.hid (implSweep nx nf caps hen B w hnx G hB hv hG hT hBt)
  obtain ⟨s, hs⟩ : ∃ s, (swp nx G (bitsL (cellsN G))) = s := ⟨_, rfl⟩
  rw [hs] at T ⊢
  obtain ⟨G', ok, mg⟩ := s
  dsimp only at T ⊢
  clear hnx hB hv hG hT hBt hs
  cases ok
  · go_enter Tryz.func140, Tryz.ntmps140
    go_wp2_with (go_at_call 141; refine T.out.mono ?_; rintro e V ⟨hb, ha, hor⟩; obtain ⟨_, rfl⟩ := hor.resolve_left (fun h => by cases h.1); have HB := Lib.hid hb; have HA := Lib.hid ha; clear hb ha hor)
    exact ⟨rfl, HB.out, HA.out, .inr ⟨trivial, rfl⟩⟩
  · go_enter Tryz.func140, Tryz.ntmps140
    go_wp2_with (go_at_call 141; refine T.out.mono ?_; rintro e V ⟨hb, ha, hor⟩; obtain ⟨_, rfl, hg⟩ := hor.resolve_right (fun h => by cases h.1); have HB := Lib.hid hb; have HA := Lib.hid ha; have HGV := Lib.hid hg; clear hb ha hor hg)
    refine bodyPost_ret (results_tt rfl _ _ _ _ rfl rfl) rfl ?_
    exact ⟨HB.out, HA.out, .inl ⟨trivial, rfl, HGV.out⟩⟩

set_option maxRecDepth 100000 in
set_option maxHeartbeats 2000000 in
/-- attempt, where nothing panics. -/
theorem att_yes (p q : Addr) (w : World) (m : Nat) (R : World → Prop)
    (hm : ∀ W, W.heap.size = w.heap.size + 1 → Below w.heap.size w W → W.cell? ⟨w.heap.size, 0, none⟩ = some (.int .i64 0) → W.frozen? ⟨w.heap.size, 0, none⟩ = false →
      Calls Tryz.prog 140 #[.pointer (some p), .pointer (some q)] W fun e V => e = .returned (.tuple #[.float .f32 m, .int .i64 0]) ∧ V.cell? ⟨w.heap.size, 0, none⟩ = some (.int .i64 0) ∧ V.frozen? ⟨w.heap.size, 0, none⟩ = false ∧ R V) :
    Calls Tryz.prog 139 #[.func (.func 140) #[] #[.pointer (some p), .pointer (some q)]] w fun e w' => e = .returned (.tuple #[.float .f32 m, .int .i64 0]) ∧ ∃ V, R V ∧ w' = V.setCell ⟨w.heap.size, 0, none⟩ (.int .i64 0) := by
  have hmf : ∀ (fn : Fn) (first cap : Array Value) (w : World), (Instr.makeFunc fn first cap).run Tryz.prog w = .ok (.func fn first cap) w := fun _ _ _ _ => rfl
  go_enter_defers Tryz.func139, Tryz.ntmps139
  go_upto_region 1 with (fail)
  obtain ⟨W, hW, zW, c1, f1, hB⟩ := code_cell w
  try rw [hW]
  have T := Lib.hid (hm W zW hB c1 f1)
  clear hm hW zW c1 f1 hB
  go_wp2_with (go_at_call 140; refine T.out.mono ?_; rintro e V ⟨rfl, hc, hf, hr⟩; have HR := Lib.hid hr; clear hr)
  refine leaves_cons (f := 155) (args := #[.pointer (some ⟨w.heap.size, 0, none⟩)]) (by simp) (by simp [go_sem]) ?_
  refine (swIdle ⟨w.heap.size, 0, none⟩ _).mono ?_
  rintro e u' w'' ⟨rfl, rfl, rfl⟩
  show Leaves _ _ _ _ [] .returning _
  have zc : (V.setCell ⟨w.heap.size, 0, none⟩ (.int .i64 0)).cell? ⟨w.heap.size, 0, none⟩ = some (.int .i64 0) := World.cell?_setCell_same' _ _ _ (by rw [hc]; rfl)
  refine ⟨_, results_tc rfl _ _ _ _ 0 rfl rfl zc Tryz.underlying2 rfl, rfl, ?_⟩
  exact ⟨V, HR.out, rfl⟩

set_option maxRecDepth 100000 in
set_option maxHeartbeats 2000000 in
/-- attempt, where a sweep panics. -/
theorem att_no (p q : Addr) (w : World) (R : World → Prop)
    (hm : ∀ W, W.heap.size = w.heap.size + 1 → Below w.heap.size w W → W.cell? ⟨w.heap.size, 0, none⟩ = some (.int .i64 0) → W.frozen? ⟨w.heap.size, 0, none⟩ = false →
      Calls Tryz.prog 140 #[.pointer (some p), .pointer (some q)] W fun e V => e = .panicked [{ v := noGround, recovered := false }] ∧ V.cell? ⟨w.heap.size, 0, none⟩ = some (.int .i64 0) ∧ V.frozen? ⟨w.heap.size, 0, none⟩ = false ∧ R V) :
    Calls Tryz.prog 139 #[.func (.func 140) #[] #[.pointer (some p), .pointer (some q)]] w fun e w' => e = .returned (.tuple #[.float .f32 0, .int .i64 4]) ∧ ∃ V Z, R V ∧ Below V.heap.size V Z ∧ w' = Z.setCell ⟨w.heap.size, 0, none⟩ (.int .i64 4) := by
  have hmf : ∀ (fn : Fn) (first cap : Array Value) (w : World), (Instr.makeFunc fn first cap).run Tryz.prog w = .ok (.func fn first cap) w := fun _ _ _ _ => rfl
  go_enter_defers Tryz.func139, Tryz.ntmps139
  go_upto_region 1 with (fail)
  obtain ⟨W, hW, zW, c1, f1, hB⟩ := code_cell w
  try rw [hW]
  have T := Lib.hid (hm W zW hB c1 f1)
  clear hm hW zW c1 f1 hB
  go_wp2_with (go_at_call 140; refine T.out.mono ?_; rintro e V ⟨rfl, hc, hf, hr⟩; have HR := Lib.hid hr; clear hr)
  refine leaves_cons (f := 155) (args := #[.pointer (some ⟨w.heap.size, 0, none⟩)]) (by simp) (by simp [go_sem]) ?_
  refine (swCatch ⟨w.heap.size, 0, none⟩ 0 [] V hc hf).mono ?_
  rintro e u' w'' ⟨rfl, rfl, Z, hZ, rfl⟩
  show Leaves _ _ _ _ [] .returning _
  have zc : (Z.setCell ⟨w.heap.size, 0, none⟩ (.int .i64 4)).cell? ⟨w.heap.size, 0, none⟩ = some (.int .i64 4) := World.cell?_setCell_same' _ _ _ (by rw [(hZ.cell (p := ⟨w.heap.size, 0, none⟩) (World.block_lt_of_cell? V _ hc)).trans hc]; rfl)
  refine ⟨_, results_tc rfl _ _ _ _ 4 rfl rfl zc Tryz.underlying2 rfl, rfl, ?_⟩
  exact ⟨V, Z, HR.out, hZ, rfl⟩

set_option maxRecDepth 100000 in
set_option maxHeartbeats 4000000 in
theorem swept_no (nx : Gd → Nat → Option Nat) (nf : Nat) (caps : Array Value) (hen : ∀ args w, (callFunc nf args).run Tryz.prog w = .ok (.enter nf args) w) (w : World)
    (hnx : ∀ (H : Gd) (k : Nat) (V : World), k < 64 → isB H k = true → validB H = true → GdOk H → GBox V w.heap.size H → Below w.heap.size w V →
      Calls Tryz.prog nf (#[.pointer (some ⟨w.heap.size, 0, none⟩), .int .i64 k] ++ caps) V fun e V' => ∃ b, e = .returned (.float .f32 b) ∧ num .f32 b = nx H k ∧ Below V.heap.size V V')
    (G : Gd) (hv : validB G = true) (hG : GdOk G) (hT : TabAt w) (ho : (swp nx G (bitsL (cellsN G))).2.1 = false) :
    Calls Tryz.prog 119 #[.agg (Grd G), .func (.func nf) #[] caps] w fun e w' => e = .returned (.tuple #[.agg (Grd zG), .float .f32 0, .int .i64 4]) ∧ Below w.heap.size w w' := by
  have hmf : ∀ (fn : Fn) (first cap : Array Value) (w : World), (Instr.makeFunc fn first cap).run Tryz.prog w = .ok (.func fn first cap) w := fun _ _ _ _ => rfl
  have hz := (zero_of_info zeroGround).1
  obtain ⟨s, hs⟩ : ∃ s, swp nx G (bitsL (cellsN G)) = s := ⟨_, rfl⟩
  rw [hs] at ho
  obtain ⟨G', ok, mg⟩ := s
  dsimp only at ho
  subst ho
  have hlt := tab_lt hT
  obtain ⟨W, hW, zW, g1, c2, g3, hB⟩ := gxg_box G zG (.func (.func nf) #[] caps) 36 218 36 w
  have TA := Lib.hid (att_no ⟨w.heap.size, 0, none⟩ ⟨w.heap.size + 1, 0, none⟩ W (fun V => V.cell? ⟨W.heap.size, 0, none⟩ = some (.int .i64 0) ∧ V.frozen? ⟨W.heap.size, 0, none⟩ = false ∧ Below w.heap.size w V ∧ V.there (w.heap.size + 1 + 1) 0 195 ∧ W.heap.size < V.heap.size) (fun W1 z1 b1 k1 f1 => by
    have hB1 : Below w.heap.size w W1 := hB.trans (b1.mono (by omega))
    have T := sweptMade nx nf caps hen w.heap.size (w.heap.size + 1) W1 (fun H k V h1 h2 h3 h4 h5 _ h6 => hnx H k V h1 h2 h3 h4 h5 (hB1.trans h6)) G (g1.below b1 (by omega)) hv hG (hT.below hB1 hlt) hlt (kc c2 (by omega) _ b1)
    rw [hs] at T
    refine T.mono ?_
    rintro e V ⟨hb, ha, hor⟩
    obtain ⟨_, rfl⟩ := hor.resolve_left (fun h => by cases h.1)
    have hc := ha.cell ⟨W.heap.size, 0, none⟩ _ (by show W.heap.size < W1.heap.size; omega) (by show W.heap.size ≠ w.heap.size; omega) k1
    have h9 := ha.size
    exact ⟨rfl, hc.1, hc.2.trans f1, hc.1, hc.2.trans f1, hB1.trans hb, there_away (g3.below b1 (by omega)).there ha (by omega) (by omega), by omega⟩))
  have HB := Lib.hid hB
  have ZW := Lib.hid zW
  clear hnx hs g1 c2 g3 hB hv hG hT hlt zW
  go_enter Tryz.func119, Tryz.ntmps119
  go_upto_region 1 with (fail)
  try rw [hW]
  clear hW
  go_upto_region 2 with (go_at_call 139; refine TA.out.mono ?_; rintro e V ⟨rfl, V0, Z, ⟨hc, hf, hb, ht, hsz⟩, hZ, rfl⟩)
  have zW := ZW.out
  have tt : (Z.setCell ⟨W.heap.size, 0, none⟩ (.int .i64 4)).there (w.heap.size + 1 + 1) 0 195 := fun j hj => by
    rw [cell_other (fun e => by injection e; omega), World.frozen?_setCell]; exact ⟨by rw [hZ.cell (p := ⟨w.heap.size + 1 + 1, 0 + j, none⟩) (by show w.heap.size + 1 + 1 < V0.heap.size; omega)]; exact (ht j hj).1, (hZ.frozen (p := ⟨w.heap.size + 1 + 1, 0 + j, none⟩) (by show w.heap.size + 1 + 1 < V0.heap.size; omega)).trans (ht j hj).2⟩
  have HBV := Lib.hid ((hb.trans (hZ.mono (by omega))).setCell (p := ⟨W.heap.size, 0, none⟩) (by show w.heap.size ≤ W.heap.size; omega) (.int .i64 4))
  have TT := Lib.hid tt
  obtain ⟨V, hV⟩ : ∃ V, Z.setCell ⟨W.heap.size, 0, none⟩ (.int .i64 4) = V := ⟨_, rfl⟩
  rw [hV] at tt HBV TT ⊢
  clear hc hf hb ht hsz hZ hV TA zW
  go_wp2_with (refine st_stage 36 rfl ?_; refine wpList_store_mid rfl 36 _ _ rfl _ 0 (Grd zG) rfl rfl (by rw [Grd_size]; with_reducible exact tt) (by rw [Grd_size]; exact infoGround) (Grd_one _) ?_; have U1 := Lib.hid (World.rangeAt_setCells_same V (w.heap.size + 1 + 1) 0 (Grd zG).toList (by rw [Grd_toList, GrdL_length]; exact TT.out)); have U2 := Lib.hid (below_setCells (B := w.heap.size) (a := w) (w.heap.size + 1 + 1) (by omega) (Grd zG).toList 0 V HBV.out); obtain ⟨U, hU⟩ : ∃ U, V.setCells (w.heap.size + 1 + 1) 0 (Grd zG).toList = U := ⟨_, rfl⟩; rw [hU] at U1 U2 ⊢; clear hU tt)
  have zr := U1.out
  rw [Grd_toList] at zr
  refine bodyPost_ret (results_gft rfl _ _ _ zG 0 4 rfl rfl rfl zr Tryz.underlying36 rfl infoG195) rfl ⟨rfl, U2.out⟩

set_option maxRecDepth 100000 in
set_option maxHeartbeats 4000000 in
theorem swept_yes (nx : Gd → Nat → Option Nat) (nf : Nat) (caps : Array Value) (hen : ∀ args w, (callFunc nf args).run Tryz.prog w = .ok (.enter nf args) w) (w : World)
    (hnx : ∀ (H : Gd) (k : Nat) (V : World), k < 64 → isB H k = true → validB H = true → GdOk H → GBox V w.heap.size H → Below w.heap.size w V →
      Calls Tryz.prog nf (#[.pointer (some ⟨w.heap.size, 0, none⟩), .int .i64 k] ++ caps) V fun e V' => ∃ b, e = .returned (.float .f32 b) ∧ num .f32 b = nx H k ∧ Below V.heap.size V V')
    (G : Gd) (hv : validB G = true) (hG : GdOk G) (hT : TabAt w) (ho : (swp nx G (bitsL (cellsN G))).2.1 = true) :
    Calls Tryz.prog 119 #[.agg (Grd G), .func (.func nf) #[] caps] w fun e w' => e = .returned (.tuple #[.agg (Grd (swp nx G (bitsL (cellsN G))).1), .float .f32 (swp nx G (bitsL (cellsN G))).2.2, .int .i64 0]) ∧ Below w.heap.size w w' := by
  have hmf : ∀ (fn : Fn) (first cap : Array Value) (w : World), (Instr.makeFunc fn first cap).run Tryz.prog w = .ok (.func fn first cap) w := fun _ _ _ _ => rfl
  have hz := (zero_of_info zeroGround).1
  obtain ⟨s, hs⟩ : ∃ s, swp nx G (bitsL (cellsN G)) = s := ⟨_, rfl⟩
  rw [hs] at ho ⊢
  obtain ⟨G', ok, mg⟩ := s
  dsimp only at ho ⊢
  subst ho
  have hlt := tab_lt hT
  obtain ⟨W, hW, zW, g1, c2, g3, hB⟩ := gxg_box G zG (.func (.func nf) #[] caps) 36 218 36 w
  have TA := Lib.hid (att_yes ⟨w.heap.size, 0, none⟩ ⟨w.heap.size + 1, 0, none⟩ W mg (fun V => V.cell? ⟨W.heap.size, 0, none⟩ = some (.int .i64 0) ∧ V.frozen? ⟨W.heap.size, 0, none⟩ = false ∧ Below w.heap.size w V ∧ V.there (w.heap.size + 1 + 1) 0 195 ∧ W.heap.size < V.heap.size ∧ V.rangeAt w.heap.size 0 (GrdL G')) (fun W1 z1 b1 k1 f1 => by
    have hB1 : Below w.heap.size w W1 := hB.trans (b1.mono (by omega))
    have T := sweptMade nx nf caps hen w.heap.size (w.heap.size + 1) W1 (fun H k V h1 h2 h3 h4 h5 _ h6 => hnx H k V h1 h2 h3 h4 h5 (hB1.trans h6)) G (g1.below b1 (by omega)) hv hG (hT.below hB1 hlt) hlt (kc c2 (by omega) _ b1)
    rw [hs] at T
    refine T.mono ?_
    rintro e V ⟨hb, ha, hor⟩
    obtain ⟨_, rfl, hg⟩ := hor.resolve_right (fun h => by cases h.1)
    have hc := ha.cell ⟨W.heap.size, 0, none⟩ _ (by show W.heap.size < W1.heap.size; omega) (by show W.heap.size ≠ w.heap.size; omega) k1
    have h9 := ha.size
    exact ⟨rfl, hc.1, hc.2.trans f1, hc.1, hc.2.trans f1, hB1.trans hb, there_away (g3.below b1 (by omega)).there ha (by omega) (by omega), by omega, hg.range⟩))
  have HB := Lib.hid hB
  have ZW := Lib.hid zW
  clear hnx hs g1 c2 g3 hB hv hG hT hlt zW
  go_enter Tryz.func119, Tryz.ntmps119
  go_upto_region 1 with (fail)
  try rw [hW]
  clear hW
  go_upto_region 2 with (go_at_call 139; refine TA.out.mono ?_; rintro e V ⟨rfl, V0, ⟨hc, hf, hb, ht, hsz, hr⟩, rfl⟩)
  have zW := ZW.out
  have rr : (V0.setCell ⟨W.heap.size, 0, none⟩ (.int .i64 0)).rangeAt w.heap.size 0 (GrdL G') := fun j v hv => (cell_other (fun e => by injection e; omega)).trans (hr j v hv)
  have tt : (V0.setCell ⟨W.heap.size, 0, none⟩ (.int .i64 0)).there (w.heap.size + 1 + 1) 0 195 := fun j hj => by
    rw [cell_other (fun e => by injection e; omega), World.frozen?_setCell]; exact ht j hj
  have HBV := Lib.hid (hb.setCell (p := ⟨W.heap.size, 0, none⟩) (by show w.heap.size ≤ W.heap.size; omega) (.int .i64 0))
  have TT := Lib.hid tt
  obtain ⟨V, hV⟩ : ∃ V, V0.setCell ⟨W.heap.size, 0, none⟩ (.int .i64 0) = V := ⟨_, rfl⟩
  rw [hV] at rr tt HBV TT ⊢
  clear hc hf hb ht hsz hr hV TA zW
  go_wp2_with (first | (refine ld_stage 36 rfl ?_; refine wpList_load_mid rfl 36 _ rfl w.heap.size 0 rfl (GrdL G') _ rr Tryz.underlying36 rfl (by rw [GrdL_length]; exact infoGround) ?_) | (refine st_stage 36 rfl ?_; refine wpList_store_mid rfl 36 _ _ rfl _ 0 (Grd G') rfl rfl (by rw [Grd_size]; with_reducible exact tt) (by rw [Grd_size]; exact infoGround) (Grd_one _) ?_; have U1 := Lib.hid (World.rangeAt_setCells_same V (w.heap.size + 1 + 1) 0 (Grd G').toList (by rw [Grd_toList, GrdL_length]; exact TT.out)); have U2 := Lib.hid (below_setCells (B := w.heap.size) (a := w) (w.heap.size + 1 + 1) (by omega) (Grd G').toList 0 V HBV.out); obtain ⟨U, hU⟩ : ∃ U, V.setCells (w.heap.size + 1 + 1) 0 (Grd G').toList = U := ⟨_, rfl⟩; rw [hU] at U1 U2 ⊢; clear hU rr tt))
  have zr := U1.out
  rw [Grd_toList] at zr
  refine bodyPost_ret (results_gft rfl _ _ _ G' mg 0 rfl rfl rfl zr Tryz.underlying36 rfl infoG195) rfl ⟨rfl, U2.out⟩
end

section
open Go Go.RowKit
set_option linter.unusedSimpArgs false
set_option linter.unusedVariables false

/-- What swept hands back. -/
def sweptV (nx : Gd → Nat → Option Nat) (G : Gd) : Value := if (swp nx G (bitsL (cellsN G))).2.1 = true then .tuple #[.agg (Grd (swp nx G (bitsL (cellsN G))).1), .float .f32 (swp nx G (bitsL (cellsN G))).2.2, .int .i64 0] else .tuple #[.agg (Grd zG), .float .f32 0, .int .i64 4]
theorem swept_any (nx : Gd → Nat → Option Nat) (nf : Nat) (caps : Array Value) (hen : ∀ args w, (callFunc nf args).run Tryz.prog w = .ok (.enter nf args) w) (w : World)
    (hnx : ∀ (H : Gd) (k : Nat) (V : World), k < 64 → isB H k = true → validB H = true → GdOk H → GBox V w.heap.size H → Below w.heap.size w V →
      Calls Tryz.prog nf (#[.pointer (some ⟨w.heap.size, 0, none⟩), .int .i64 k] ++ caps) V fun e V' => ∃ b, e = .returned (.float .f32 b) ∧ num .f32 b = nx H k ∧ Below V.heap.size V V')
    (G : Gd) (hv : validB G = true) (hG : GdOk G) (hT : TabAt w) :
    Calls Tryz.prog 119 #[.agg (Grd G), .func (.func nf) #[] caps] w fun e w' => e = .returned (sweptV nx G) ∧ Below w.heap.size w w' := by
  cases ho : (swp nx G (bitsL (cellsN G))).2.1
  · rw [show sweptV nx G = .tuple #[.agg (Grd zG), .float .f32 0, .int .i64 4] by simp [sweptV, ho]]
    exact swept_no nx nf caps hen w hnx G hv hG hT ho
  · rw [show sweptV nx G = .tuple #[.agg (Grd (swp nx G (bitsL (cellsN G))).1), .float .f32 (swp nx G (bitsL (cellsN G))).2.2, .int .i64 0] by simp [sweptV, ho]]
    exact swept_yes nx nf caps hen w hnx G hv hG hT ho

theorem sweptOrder_any (G : Gd) (w : World) (hv : validB G = true) (hG : GdOk G) (hT : TabAt w) :
    Calls Tryz.prog 119 #[.agg (Grd G), .func (.func 120) #[] #[]] w fun e w' => e = .returned (sweptV headO G) ∧ Below w.heap.size w w' :=
  swept_any headO 120 #[] (enters_of Tryz.func120 (by kernel_rfl) rfl) w
    (fun H k V hk _ hvH hGH hB _ => (implHead_any H k hk hvH w.heap.size V hB.at' hB.lt hGH).mono fun e V' ⟨b, h1, h2, h3⟩ => ⟨b, h1, h2, h3⟩) G hv hG hT
theorem results_gfn {P : Program} {fn : Func} {p q r : Tmp} {ty : TypeId} {D : TypeDesc} (h : fn.results = #[.cell p ty, .tmp q, .tmp r]) (tmps : Array Value) (w : World) (b : Nat) (G : Gd) (m : Nat) (n : Int)
    (hp : tmps.getD p undef = .pointer (some ⟨b, 0, none⟩)) (hq : tmps.getD q undef = .float .f32 m) (hr : tmps.getD r undef = .int .i64 n) (hc : w.rangeAt b 0 (GrdL G))
    (hu : P.underlying ty = some D) (hd : D.isRow = true) (hi : (P.info? ty).map (·.size) = some 195) :
    (results fn tmps).run P w = .ok (.tuple #[.agg (Grd G), .float .f32 m, .int .i64 n]) w := by
  have hp' : tmps[p]?.getD undef = .pointer (some ⟨b, 0, none⟩) := by simpa using hp
  have hq' : tmps[q]?.getD undef = .float .f32 m := by simpa using hq
  have hr' : tmps[r]?.getD undef = .int .i64 n := by simpa using hr
  have := run_loadVar_mid (P := P) w b 0 ty (GrdL G) D hc hu hd (by rw [GrdL_length]; exact hi)
  simp [results, h, hp', hq', hr', asAddr, this, Grd]

/-- What the sweep in order hands back. -/
def ordV (G : Gd) : Value := if validB G = true then sweptV headO G else .tuple #[.agg (Grd zG), .float .f32 0, .int .i64 1]
theorem sweptV_is (nx : Gd → Nat → Option Nat) (G : Gd) : ∃ (A : Gd) (m : Nat) (n : Int), sweptV nx G = .tuple #[.agg (Grd A), .float .f32 m, .int .i64 n] := by
  unfold sweptV
  split
  · exact ⟨_, _, _, rfl⟩
  · exact ⟨_, _, _, rfl⟩

end

section
open Go Go.RowKit
set_option linter.unusedSimpArgs false
set_option linter.unusedVariables false

theorem new_thereG (t : TypeId) (w : World) : (w.alloc (.cells (Grd zG) t)).there w.heap.size 0 195 := there_row (heap_alloc_last w _) (Grd_size zG)

/-- What a step at once hands back. -/
def stepV (G : Gd) : Value := if validB G = true then sweptV (fun _ k => headO G k) G else .tuple #[.agg (Grd zG), .float .f32 0, .int .i64 1]

end
end Go.Proofs.YtaghnminpfgdcaaGreatDoor
