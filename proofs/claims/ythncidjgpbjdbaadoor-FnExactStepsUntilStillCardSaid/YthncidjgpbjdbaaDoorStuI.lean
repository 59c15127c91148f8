/- Steps until heads are still, the program's. Condition: the table of math/bits is laid. -/
import Derived.Test.YthncidjgpbjdbaaDoorStu
import Derived.Test.YthncidjgpbjdbaaDoorStpG
namespace Go.Proofs.YthncidjgpbjdbaaDoor
open Go Go.RowKit Go.Shelf
attribute [local go_sem] Oper.semAt_some run_store_float
set_option linter.unusedSimpArgs false
set_option linter.unusedVariables false

theorem sizeOf_bal {G : Gd} (ha : allFin G = true) {k : Nat} (hk : k < 64) (hi : isB G k = true) (w : World) : Calls Tryd.prog 131 #[.float .f32 (balF G k)] w fun e w' => e = .returned (.float .f32 (absN (balF G k))) ∧ Quiet w w' :=
  (sizeOf_any (balF G k) w).mono fun e w' ⟨r, he, hr, hq⟩ => ⟨he.trans (by rw [(bal_size ha hk hi hr).1]), hq⟩
/-- The bits of the cells that are not fixed. -/
theorem lull_bits {G : Gd} {x mm : Nat} (hm : ∀ i, i < 64 → mm.testBit i = frB G i) (h : ∀ i ∈ bitsL mm, leX (absN (balF G i)) x = true) : lullB G x = true :=
  lull_yes fun i hi hf => h i (mem_bitsL.2 ⟨hi, by rw [hm i hi]; exact hf⟩)
theorem calm_boxes (G : Gd) (x : Nat) (t u v y : TypeId) (w : World) : ∃ W, (((w.alloc (.cells (Grd G) t)).alloc (.cells #[.float .f32 x] u)).alloc (.cells #[.bool false] v)).alloc (.cells #[.int .i64 0] y) = W ∧ W.heap.size = w.heap.size + 1 + 1 + 1 + 1 ∧ GBox W w.heap.size G ∧ W.cell? ⟨w.heap.size + 1, 0, none⟩ = some (.float .f32 x) ∧ W.cell? ⟨w.heap.size + 1 + 1, 0, none⟩ = some (.bool false) ∧ W.frozen? ⟨w.heap.size + 1 + 1, 0, none⟩ = false ∧ W.cell? ⟨w.heap.size + 1 + 1 + 1, 0, none⟩ = some (.int .i64 0) ∧ W.frozen? ⟨w.heap.size + 1 + 1 + 1, 0, none⟩ = false ∧ Below w.heap.size w W := by
  obtain ⟨W1, h1, z1, g1, b1⟩ := gbox1 G t w
  rw [h1]
  have q1 : W1.cell? ⟨w.heap.size, 0, none⟩ = some (.int .i8 G.wide) := g1.at'.wide
  obtain ⟨W2, h2⟩ : ∃ W2, W1.alloc (.cells #[.float .f32 x] u) = W2 := ⟨_, rfl⟩
  have z2 : W2.heap.size = w.heap.size + 1 + 1 := by rw [← h2]; simp [z1]
  have b2 : Below W1.heap.size W1 W2 := by rw [← h2]; exact (Below.refl _ _).alloc (Nat.le_refl _) _
  have c2 : W2.cell? ⟨w.heap.size + 1, 0, none⟩ = some (.float .f32 x) := by rw [← h2, ← z1]; exact cell_of_row _ _ 0 _ _ _ (heap_alloc_last W1 _)
  rw [h2]
  obtain ⟨W3, h3⟩ : ∃ W3, W2.alloc (.cells #[.bool false] v) = W3 := ⟨_, rfl⟩
  have z3 : W3.heap.size = w.heap.size + 1 + 1 + 1 := by rw [← h3]; simp [z2]
  have b3 : Below W2.heap.size W2 W3 := by rw [← h3]; exact (Below.refl _ _).alloc (Nat.le_refl _) _
  have c3 : W3.cell? ⟨w.heap.size + 1 + 1, 0, none⟩ = some (.bool false) := by rw [← h3, ← z2]; exact cell_of_row _ _ 0 _ _ _ (heap_alloc_last W2 _)
  have f3 : W3.frozen? ⟨w.heap.size + 1 + 1, 0, none⟩ = false := by
    have := (there_row (n := 1) (heap_alloc_last W2 (.cells #[.bool false] v)) rfl 0 (by omega)).2
    rw [Nat.zero_add] at this
    rw [← h3, ← z2]; exact this
  rw [h3]
  obtain ⟨W4, h4⟩ : ∃ W4, W3.alloc (.cells #[.int .i64 0] y) = W4 := ⟨_, rfl⟩
  have z4 : W4.heap.size = w.heap.size + 1 + 1 + 1 + 1 := by rw [← h4]; simp [z3]
  have b4 : Below W3.heap.size W3 W4 := by rw [← h4]; exact (Below.refl _ _).alloc (Nat.le_refl _) _
  have c4 : W4.cell? ⟨w.heap.size + 1 + 1 + 1, 0, none⟩ = some (.int .i64 0) := by rw [← h4, ← z3]; exact cell_of_row _ _ 0 _ _ _ (heap_alloc_last W3 _)
  have f4 : W4.frozen? ⟨w.heap.size + 1 + 1 + 1, 0, none⟩ = false := by
    have := (there_row (n := 1) (heap_alloc_last W3 (.cells #[.int .i64 0] y)) rfl 0 (by omega)).2
    rw [Nat.zero_add] at this
    rw [← h4, ← z3]; exact this
  rw [h4]
  have b24 := b3.trans (b4.mono (by omega))
  have b14 := b2.trans (b24.mono (by omega))
  exact ⟨W4, rfl, z4, g1.below b14 (by omega), kc c2 (by omega) _ b24, kc c3 (by omega) _ b4, (b4.frozen (p := ⟨w.heap.size + 1 + 1, 0, none⟩) (by simp; omega)).trans f3, c4, f4, b1.trans (b14.mono (by omega))⟩
theorem results_cc {P : Program} {fn : Func} {p q : Tmp} {tb ti : TypeId} {Db Di : TypeDesc} (h : fn.results = #[.cell p tb, .cell q ti]) (tmps : Array Value) (w : World) (b c : Nat) (r : Bool) (n : Int)
    (hp : tmps.getD p undef = .pointer (some ⟨b, 0, none⟩)) (hq : tmps.getD q undef = .pointer (some ⟨c, 0, none⟩)) (hb : w.cell? ⟨b, 0, none⟩ = some (.bool r)) (hn : w.cell? ⟨c, 0, none⟩ = some (.int .i64 n))
    (hub : P.underlying tb = some Db) (hdb : Db.isRow = false) (hui : P.underlying ti = some Di) (hdi : Di.isRow = false) :
    (results fn tmps).run P w = .ok (.tuple #[.bool r, .int .i64 n]) w := by
  have hp' : tmps[p]?.getD undef = .pointer (some ⟨b, 0, none⟩) := by simpa using hp
  have hq' : tmps[q]?.getD undef = .pointer (some ⟨c, 0, none⟩) := by simpa using hq
  have hagg : (isAgg tb).run P w = .ok false w := by
    unfold isAgg
    rw [Sem.run_bind, run_underlying hub w]
    cases Db <;> simp_all
  have h1 : (loadVar tb ⟨b, 0, none⟩).run P w = .ok (.bool r) w := by
    unfold loadVar
    go_simp
  have hagg2 : (isAgg ti).run P w = .ok false w := by
    unfold isAgg
    rw [Sem.run_bind, run_underlying hui w]
    cases Di <;> simp_all
  have h2 : (loadVar ti ⟨c, 0, none⟩).run P w = .ok (.int .i64 n) w := by
    unfold loadVar
    go_simp
  simp [results, h, hp', hq', asAddr, h1, h2]

theorem two_set {X w : World} {b : Nat} {v3 v4 : Value} (r : Bool) (n : Int) (h3 : X.cell? ⟨b, 0, none⟩ = some v3) (h4 : X.cell? ⟨b + 1, 0, none⟩ = some v4) (hB : Below w.heap.size w X) (hw : w.heap.size ≤ b) :
    ((X.setCell ⟨b, 0, none⟩ (.bool r)).setCell ⟨b + 1, 0, none⟩ (.int .i64 n)).cell? ⟨b, 0, none⟩ = some (.bool r) ∧ ((X.setCell ⟨b, 0, none⟩ (.bool r)).setCell ⟨b + 1, 0, none⟩ (.int .i64 n)).cell? ⟨b + 1, 0, none⟩ = some (.int .i64 n) ∧ Below w.heap.size w ((X.setCell ⟨b, 0, none⟩ (.bool r)).setCell ⟨b + 1, 0, none⟩ (.int .i64 n)) := by
  have e : (X.setCell ⟨b, 0, none⟩ (.bool r)).cell? ⟨b + 1, 0, none⟩ = some v4 := (cell_other (fun e => by injection e; omega)).trans h4
  exact ⟨(cell_other (fun e => by injection e; omega)).trans (World.cell?_setCell_same' _ _ _ (by rw [h3]; rfl)), World.cell?_setCell_same' _ _ _ (by rw [e]; rfl), (hB.setCell (p := ⟨b, 0, none⟩) hw _).setCell (p := ⟨b + 1, 0, none⟩) (by show w.heap.size ≤ b + 1; omega) _⟩

set_option maxRecDepth 100000 in
set_option maxHeartbeats 2000000 in
theorem isCalm_no (G : Gd) (s : Nat) (w : World) (hG : GdOk G) (hT : TabAt w) (hv : validB G = true) (ha : allFin G = false) :
    Calls Tryd.prog 94 #[.agg (Grd G), .float .f32 s] w fun e w' => e = .returned (.tuple #[.bool false, .int .i64 4]) ∧ Below w.heap.size w w' := by
  have hzf := (zero_of_info zeroField).1
  have HBV := Lib.hid (show balsV G = .tuple #[.agg (Fld zf), .int .i64 4] by simp [balsV, hv, ha, FN])
  go_enter Tryd.func94, Tryd.ntmps94
  go_upto_region 1 with (fail)
  obtain ⟨W, hW, zW, g1, c2, c3, f3, c4, f4, hB⟩ := calm_boxes G s 35 23 4 2 w
  rw [hW]
  clear hW
  have r1 := g1.range
  have HB := Lib.hid hB
  have HG := Lib.hid hG
  have HT := Lib.hid (hT.below hB (tab_lt hT))
  clear g1 hB hG hv ha hT c2
  go_upto_region 2 with (first | (refine ld_stage 35 rfl ?_; refine wpList_load_mid rfl 35 _ rfl (w.heap.size) 0 rfl (GrdL (G)) _ r1 Tryd.underlying35 rfl (by rw [GrdL_length]; exact infoGround) ?_) | (go_at_call 130; have hc := implBalances_any G _ HG.out HT.out; rw [HBV.out] at hc; refine hc.mono ?_; clear hc; rintro e V ⟨rfl, hb⟩; have tF := new_thereF 33 V) | (refine st_stage 33 rfl ?_; refine wpList_store_mid rfl 33 _ _ rfl _ 0 (Fld (zf)) rfl rfl (by rw [Fld_size]; with_reducible exact tF) (by rw [Fld_size]; exact infoField) (Fld_one _) ?_))
  obtain ⟨X, hX, zX, gX, bX⟩ := stored_fld zf 33 V
  rw [hX]
  have k1 := hb.trans (bX.mono hb.size)
  have x3 := kc c3 (by omega) _ k1
  have x4 := kc c4 (by omega) _ k1
  have y3 : X.frozen? ⟨w.heap.size + 1 + 1, 0, none⟩ = false := (k1.frozen (p := ⟨w.heap.size + 1 + 1, 0, none⟩) (by simp; omega)).trans f3
  have y4 : X.frozen? ⟨w.heap.size + 1 + 1 + 1, 0, none⟩ = false := (k1.frozen (p := ⟨w.heap.size + 1 + 1 + 1, 0, none⟩) (by simp; omega)).trans f4
  have BX := Lib.hid (HB.out.trans (k1.mono (by omega)))
  clear hX tF zX gX bX hb k1 c3 c4 f3 f4 r1 zW
  go_wp2
  obtain ⟨z3, z4, zB⟩ := two_set false 4 x3 x4 BX.out (by omega)
  refine bodyPost_ret (results_cc rfl _ _ _ _ false 4 rfl rfl z3 z4 Tryd.underlying4 rfl Tryd.underlying2 rfl) rfl ⟨rfl, zB⟩

set_option maxRecDepth 100000 in
set_option maxHeartbeats 4000000 in
theorem isCalm_fin (G : Gd) (s : Nat) (w : World) (hG : GdOk G) (hT : TabAt w) (hv : validB G = true) (ha : allFin G = true) (hs : plainB s = true) :
    Calls Tryd.prog 94 #[.agg (Grd G), .float .f32 s] w fun e w' => e = .returned (.tuple #[.bool (lullB G s), .int .i64 0]) ∧ Below w.heap.size w w' := by
  have hzf := (zero_of_info zeroField).1
  have HBV := Lib.hid (show balsV G = .tuple #[.agg (Fld (balF G)), .int .i64 0] by simp [balsV, hv, ha, FN])
  obtain ⟨_, mm64, hmt⟩ := freeN_is hG
  have HFR := Lib.hid (fun (p : Nat) (V : World) (h : GrdAt V p 0 G) => free_any G hv p V h hG)
  obtain ⟨mm, hmm⟩ : ∃ mm, freeN G = mm := ⟨_, rfl⟩
  rw [hmm] at mm64 hmt HFR
  have HMT := Lib.hid hmt
  have HA := Lib.hid ha
  have HSP := Lib.hid hs
  have HG := Lib.hid hG
  have glt := tab_lt hT
  have HT0 := Lib.hid hT
  clear hmt hmm hv hG hT ha hs
  refine (callsIn_wide (n := 6)).1 (callsIn_of_wp_marks Tryd.func94 rfl trivial ?_ rfl)
  simp only [Tryd.ntmps94, List.size_toArray, List.length_cons, List.length_nil, Nat.reduceAdd, Nat.reduceSub, Array.replicate_succ, Array.replicate_zero, List.push_toArray, List.append_toArray, List.nil_append, List.cons_append]
  refine wpIn_wide.2 ?_
  go_upto_region 1 with (fail)
  obtain ⟨W, hW, zW, g1, c2, c3, f3, c4, f4, hB⟩ := calm_boxes G s 35 23 4 2 w
  rw [hW]
  clear hW
  have r1 := g1.range
  have G1 := Lib.hid g1
  have HB := Lib.hid hB
  have HT := Lib.hid (HT0.out.below hB (tab_lt HT0.out))
  clear g1 hB HT0
  go_upto_region 2 with (first | (refine ld_stage 35 rfl ?_; refine wpList_load_mid rfl 35 _ rfl (w.heap.size) 0 rfl (GrdL (G)) _ r1 Tryd.underlying35 rfl (by rw [GrdL_length]; exact infoGround) ?_) | (go_at_call 130; have hc := implBalances_any G _ HG.out HT.out; rw [HBV.out] at hc; refine hc.mono ?_; clear hc; rintro e V ⟨rfl, hb⟩; have tF := new_thereF 33 V) | (refine st_stage 33 rfl ?_; refine wpList_store_mid rfl 33 _ _ rfl _ 0 (Fld (balF G)) rfl rfl (by rw [Fld_size]; with_reducible exact tF) (by rw [Fld_size]; exact infoField) (Fld_one _) ?_))
  obtain ⟨X, hX, zX, gX, bX⟩ := stored_fld (balF G) 33 V
  have tX : X.there V.heap.size 0 64 := by
    rw [← hX]
    exact there_setCells (new_thereF _ V)
  rw [hX]
  have zV := hb.size
  have k1 := hb.trans (bX.mono hb.size)
  obtain ⟨N, hN⟩ : ∃ N, V.heap.size = N := ⟨_, rfl⟩
  rw [hN] at gX tX zX zV ⊢
  have X1 := Lib.hid (G1.out.below k1 (by omega))
  have X2 := Lib.hid (kc c2 (by omega) _ k1)
  have X3 := Lib.hid (kc c3 (by omega) _ k1)
  have X4 := Lib.hid (kc c4 (by omega) _ k1)
  have Y3 := Lib.hid ((k1.frozen (p := ⟨w.heap.size + 1 + 1, 0, none⟩) (by simp; omega)).trans f3 : X.frozen? ⟨w.heap.size + 1 + 1, 0, none⟩ = false)
  have Y4 := Lib.hid ((k1.frozen (p := ⟨w.heap.size + 1 + 1 + 1, 0, none⟩) (by simp; omega)).trans f4 : X.frozen? ⟨w.heap.size + 1 + 1 + 1, 0, none⟩ = false)
  have X5 := Lib.hid (⟨gX, tX⟩ : RowAt X N (balF G))
  have TX := Lib.hid (HT.out.below k1 (tab_lt HT.out))
  have BX := Lib.hid (HB.out.trans (k1.mono (by omega)))
  have hwN : w.heap.size + 1 + 1 + 1 < N := by omega
  have hNX : N < X.heap.size := by omega
  clear hX hb bX k1 gX tX hN tF zX zV zW G1 HT HB r1 c2 c3 c4 f3 f4
  go_wp2_with (first | (go_at_call 82; refine (HFR.out _ _ X1.out.at').mono ?_; rintro e w' ⟨rfl, hw'⟩) | (go_at_call 65; refine (bitsIn_any mm _).mono ?_; rintro e w2 ⟨rfl, rfl⟩))
  obtain ⟨U, hU⟩ : ∃ U, w'.alloc (.cells #[.int .u64 (mm : Int)] 25) = U := ⟨_, rfl⟩
  have hbU0 : Below w'.heap.size w' U := by rw [← hU]; exact (Below.refl _ _).alloc (Nat.le_refl _) _
  have cM : U.cell? ⟨w'.heap.size, 0, none⟩ = some (.int .u64 mm) := by rw [← hU]; exact cell_of_row _ _ 0 _ _ _ (heap_alloc_last w' _)
  have zw : w'.heap.size = X.heap.size := hw'.size
  have hbU : Below X.heap.size X U := (hw'.below _).trans (hbU0.mono (by omega))
  have zU : X.heap.size < U.heap.size := by have : w'.heap.size < U.heap.size := (by rw [← hU]; simp); omega
  rw [hU]
  rw [zw] at cM ⊢
  have u2 := kc X2.out (by omega) _ hbU
  have u3 := kc X3.out (by omega) _ hbU
  have u4 := kc X4.out (by omega) _ hbU
  have v3 : U.frozen? ⟨w.heap.size + 1 + 1, 0, none⟩ = false := (hbU.frozen (p := ⟨w.heap.size + 1 + 1, 0, none⟩) (by simp; omega)).trans Y3.out
  have v4 : U.frozen? ⟨w.heap.size + 1 + 1 + 1, 0, none⟩ = false := (hbU.frozen (p := ⟨w.heap.size + 1 + 1 + 1, 0, none⟩) (by simp; omega)).trans Y4.out
  have u5 := X5.out.below hbU hNX
  have BU := Lib.hid (BX.out.trans (hbU.mono (by omega)))
  have TU := TX.out.below hbU (tab_lt TX.out)
  clear hU hbU0 hbU hw' zw X1 X2 X3 X4 X5 Y3 Y4 BX TX hzf
  try simp only [Act.put, List.setIfInBounds_toArray, List.set_cons_zero, List.set_cons_succ]
  refine (wpIn_wide (n := 6)).1 (wp_bits 18 19 8 X.heap.size (w.heap.size + 1 + 1) mm mm64 rfl cM TU (by omega) (by omega)
    (fun pre W2 => (∀ i ∈ pre, leX (absN (balF G i)) s = true) ∧ RowAt W2 N (balF G) ∧ W2.cell? ⟨w.heap.size + 1, 0, none⟩ = some (.float .f32 s) ∧ W2.cell? ⟨w.heap.size + 1 + 1, 0, none⟩ = some (.bool false) ∧ W2.frozen? ⟨w.heap.size + 1 + 1, 0, none⟩ = false ∧ W2.cell? ⟨w.heap.size + 1 + 1 + 1, 0, none⟩ = some (.int .i64 0) ∧ W2.frozen? ⟨w.heap.size + 1 + 1 + 1, 0, none⟩ = false)
    (fun c pre W2 => c = .ret ∧ lullB G s = false ∧ W2.cell? ⟨w.heap.size + 1 + 1, 0, none⟩ = some (.bool false) ∧ W2.cell? ⟨w.heap.size + 1 + 1 + 1, 0, none⟩ = some (.int .i64 0))
    (fun q A B h ⟨a1, a2, a3, a4, a5, a6, a7⟩ => ⟨a1, h.row a2, h.cell a3, h.cell a4, (h.frozen a4).trans a5, h.cell a6, (h.frozen a6).trans a7⟩) (fun _ _ _ _ h ⟨a1, a2, a3, a4⟩ => ⟨a1, a2, h.cell a3, h.cell a4⟩)
    ⟨fun i hi => (by cases hi), u5, u2, u3, v3, u4, v4⟩ ?assign ?body ?done ?stop)
  case assign =>
    intro l x W K hK
    simp only [List.setIfInBounds_toArray, List.set_cons_zero, List.set_cons_succ] at hK ⊢
    gi_wp2
    exact hK
  case body =>
    rintro l pre x W2 ⟨a1, a2, a3, a4, a5, a6, a7⟩ hB2 hbit hx64
    simp only [List.setIfInBounds_toArray, List.set_cons_zero, List.set_cons_succ]
    have hfr : frB G x.1 = true := by rw [← HMT.out x.1 hx64]; exact hbit
    have hi : isB G x.1 = true := by simp [frB] at hfr; exact hfr.1
    have cN : W2.cell? ⟨N, 0 + x.1, none⟩ = some (.float .f32 (balF G x.1)) := by rw [Nat.zero_add]; exact a2.cell x.1 hx64
    have hx2 : (x.1 : Int) < 64 := by omega
    have hzB := hB2.size
    obtain ⟨RB, hRB⟩ : ∃ b, (!leX (absN (balF G x.1)) s) = b := ⟨_, rfl⟩
    obtain ⟨r0, hr0⟩ := size_ex (balF G x.1)
    have hn := bal_size HA.out hx64 hi hr0
    have HRB := Lib.hid (show (FloatKind.f32.format.order (absN (balF G x.1)) s == some Ordering.gt) = RB by rw [gt_le (hn.1 ▸ hn.2) HSP.out, hRB])
    have A1 := Lib.hid a1
    have A2 := Lib.hid a2
    have A5 := Lib.hid a5
    have A7 := Lib.hid a7
    have A4 := Lib.hid a4
    have A6 := Lib.hid a6
    have HB2 := Lib.hid hB2
    clear a1 a2 a4 a5 a6 a7 hB2 hbit u2 u3 u4 u5 v3 v4 cM TU hn hr0
    gi_upto_region 6 with (fail)
    refine wpIn_region_calm (ops' := regOf Tryd.f94 6) [0, 1, 2, 3, 4, 5] [] .fin (Quiet W2) [(0, One (.int .i64 (x.1 : Int))), (1, One (.pointer (some ⟨N, 0 + x.1, none⟩))), (2, One (.float .f32 (balF G x.1))), (3, One (.float .f32 (absN (balF G x.1)))), (4, One (.float .f32 s)), (5, One (.bool RB))] (by kernel_rfl) (by kernel_rfl) (by kernel_rfl) (by kernel_rfl) (by kernel_rfl) (by kernel_rfl) (by kernel_rfl) (by kernel_rfl) (by kernel_rfl) rfl ((Quiet.refl _).drewN 1) ?_
    refine calm_pure (some 20) (by kernel_rfl) (by kernel_rfl) (by kernel_rfl) (fun _ => by kernel_rfl) ?_
    refine calm_pure (some 21) (by kernel_rfl) (by kernel_rfl) (by kernel_rfl) (index_fld (x := .tmp 6) (y := .tmp 20) (o := 0) (by kernel_rfl) (by kernel_rfl) (by kernel_rfl) hx64) ?_
    refine calm_read (some 22) (by kernel_rfl) (by kernel_rfl) (by kernel_rfl) (fun w' hw' => load_cell (ty := 23) (x := .tmp 21) (b := N) (o := 0 + x.1) (by kernel_rfl) (by kernel_rfl) Tryd.underlying23 rfl (kq cN w' hw')) ?_
    refine calm_call (some 23) 131 #[.float .f32 (balF G x.1)] ⟨_, rfl⟩ (by kernel_rfl) (by kernel_rfl) (by kernel_rfl) (fun _ => by kernel_rfl) (fun w' hw' => (sizeOf_bal HA.out hx64 hi w').mono fun e w2 h => ⟨_, h.1, rfl, hw'.trans h.2⟩) ?_
    rintro _ rfl
    refine calm_read (some 24) (by kernel_rfl) (by kernel_rfl) (by kernel_rfl) (fun w' hw' => load_cell (ty := 23) (x := .tmp 3) (b := (w.heap.size + 1)) (o := 0) (by kernel_rfl) (by kernel_rfl) Tryd.underlying23 rfl (kq a3 w' hw')) ?_
    refine calm_pure (some 25) (by kernel_rfl) (by kernel_rfl) (by kernel_rfl) (fun _ => by rw [← HRB.out]; kernel_rfl) ?_
    refine calm_end fun V hV => plan_end (Clean.normal ?_)
    simp only [Act.put, List.setIfInBounds_toArray, List.set_cons_zero, List.set_cons_succ]
    have k0 := hV.below W2.heap.size
    have V3 := Lib.hid (kq a3 _ hV)
    have v4 := kq A4.out _ hV
    have v6 := kq A6.out _ hV
    have v5 : V.frozen? ⟨w.heap.size + 1 + 1, 0, none⟩ = false := by obtain ⟨n, rfl⟩ := hV; exact A5.out
    have v7 : V.frozen? ⟨w.heap.size + 1 + 1 + 1, 0, none⟩ = false := by obtain ⟨n, rfl⟩ := hV; exact A7.out
    have V2 := Lib.hid (A2.out.quiet hV)
    have K0 := Lib.hid k0
    cases RB
    · have hl : leX (absN (balF G x.1)) s = true := by simpa using hRB
      have HL := Lib.hid (show ∀ i ∈ nos (pre ++ [x]), leX (absN (balF G i)) s = true from fun i hi => by
        rw [nos_snoc] at hi
        rcases List.mem_append.1 hi with h | h
        · exact A1.out i h
        · simp only [List.mem_singleton] at h
          subst h
          exact hl)
      have V4 := Lib.hid v4
      have V5 := Lib.hid v5
      have V6 := Lib.hid v6
      have V7 := Lib.hid v7
      clear hRB hl cN a3 hfr hi hV k0 v4 v5 v6 v7
      gi_wp2
      exact ⟨KeepsOthers.of_below' K0.out, K0.out.mono (by omega), ⟨HL.out, V2.out, V3.out, V4.out, V5.out, V6.out, V7.out⟩, HB2.out.trans (K0.out.mono (by omega))⟩
    · have hl : leX (absN (balF G x.1)) s = false := by simpa using hRB
      have HL := Lib.hid (lull_no hx64 hfr hl)
      clear hRB hl cN a3 hfr hi hV k0
      have kB := (K0.out.mono (by omega) : Below (w.heap.size + 1 + 1) W2 V)
      have e6 : (V.setCell ⟨w.heap.size + 1 + 1, 0, none⟩ (.bool false)).cell? ⟨w.heap.size + 1 + 1 + 1, 0, none⟩ = some (.int .i64 0) := (cell_other (fun e => by injection e; omega)).trans v6
      have E1 := Lib.hid (show ((V.setCell ⟨w.heap.size + 1 + 1, 0, none⟩ (.bool false)).setCell ⟨w.heap.size + 1 + 1 + 1, 0, none⟩ (.int .i64 0)).cell? ⟨w.heap.size + 1 + 1, 0, none⟩ = some (.bool false) from (cell_other (fun e => by injection e; omega)).trans (World.cell?_setCell_same' _ _ _ (by rw [v4]; rfl)))
      have E2 := Lib.hid (show ((V.setCell ⟨w.heap.size + 1 + 1, 0, none⟩ (.bool false)).setCell ⟨w.heap.size + 1 + 1 + 1, 0, none⟩ (.int .i64 0)).cell? ⟨w.heap.size + 1 + 1 + 1, 0, none⟩ = some (.int .i64 0) from World.cell?_setCell_same' _ _ _ (by rw [e6]; rfl))
      have E3 := Lib.hid ((kB.setCell (p := ⟨w.heap.size + 1 + 1, 0, none⟩) (Nat.le_refl _) (.bool false)).setCell (p := ⟨w.heap.size + 1 + 1 + 1, 0, none⟩) (by simp) (.int .i64 0))
      clear e6 kB
      gi_wp2
      exact ⟨((KeepsOthers.of_below' K0.out).trans (KeepsOthers.setCell _ _ _)).trans (KeepsOthers.setCell _ _ _), ⟨rfl, HL.out, E1.out, E2.out⟩, HB2.out.trans E3.out⟩
  case done =>
    rintro D W2 hD ⟨a1, a2, a3, a4, a5, a6, a7⟩ hB2 hK
    have R := Lib.hid (lull_bits HMT.out a1)
    have hwD : w.heap.size ≤ D := by omega
    have e6 : (W2.setCell ⟨w.heap.size + 1 + 1, 0, none⟩ (.bool true)).cell? ⟨w.heap.size + 1 + 1 + 1, 0, none⟩ = some (.int .i64 0) := (cell_other (fun e => by injection e; omega)).trans a6
    have E1 := Lib.hid (show ((W2.setCell ⟨w.heap.size + 1 + 1, 0, none⟩ (.bool true)).setCell ⟨w.heap.size + 1 + 1 + 1, 0, none⟩ (.int .i64 0)).cell? ⟨w.heap.size + 1 + 1, 0, none⟩ = some (.bool true) from (cell_other (fun e => by injection e; omega)).trans (World.cell?_setCell_same' _ _ _ (by rw [a4]; rfl)))
    have E2 := Lib.hid (show ((W2.setCell ⟨w.heap.size + 1 + 1, 0, none⟩ (.bool true)).setCell ⟨w.heap.size + 1 + 1 + 1, 0, none⟩ (.int .i64 0)).cell? ⟨w.heap.size + 1 + 1 + 1, 0, none⟩ = some (.int .i64 0) from World.cell?_setCell_same' _ _ _ (by rw [e6]; rfl))
    have E3 := Lib.hid (((BU.out.trans (hB2.mono (by omega))).setCell (p := ⟨w.heap.size + 1 + 1, 0, none⟩) (by simp; omega) (.bool true)).setCell (p := ⟨w.heap.size + 1 + 1 + 1, 0, none⟩) (by simp; omega) (.int .i64 0))
    have K2 := Lib.hid ((Below.heap_setCell _ ⟨w.heap.size + 1 + 1 + 1, 0, none⟩ (.int .i64 0) D (by simp; omega)).trans ((Below.heap_setCell W2 ⟨w.heap.size + 1 + 1, 0, none⟩ (.bool true) D (by simp; omega)).trans hK))
    clear a1 a2 a3 hB2 hD hK u2 u3 u4 u5 v3 v4 cM TU e6
    go_wp2
    exact ret_marks K2.out (fun W' h => results_cc rfl _ _ _ _ _ _ rfl rfl (h.cell E1.out) (h.cell E2.out) Tryd.underlying4 rfl Tryd.underlying2 rfl) (fun W' _ hb => ⟨by rw [R.out], E3.out.trans (hb _ hwD)⟩)
  case stop =>
    rintro D c pre W2 hD hp ⟨rfl, a2, a3, a4⟩ hB2 hK
    have R := Lib.hid a2
    clear a2
    gi_wp2
    exact ret_marks hK (fun W' h => results_cc rfl _ _ _ _ _ _ rfl rfl (h.cell a3) (h.cell a4) Tryd.underlying4 rfl Tryd.underlying2 rfl) (fun W' _ hb => ⟨by rw [R.out], (BU.out.trans (hB2.mono (by omega))).trans (hb _ (by omega))⟩)

set_option maxRecDepth 100000 in
set_option maxHeartbeats 2000000 in
theorem checkSteps_any (G : Gd) (part p : Nat) (y : Int) (w : World) (hG : GdOk G) (hT : TabAt w) (hp : GBox w p G) :
    Calls Tryd.prog 90 #[.pointer (some ⟨p, 0, none⟩), .iface 134 (.float .f32 part), .int .i64 y] w fun e w' => e = .returned (.int .i64 (if askT G part = 0 then (if hoursB y = true then 0 else 2) else 1)) ∧ Below w.heap.size w w' := by
  have HG := Lib.hid hG
  have HT := Lib.hid hT
  have HP := Lib.hid hp
  clear hG hT hp
  have CK : ∀ a, askT G part = a → Calls Tryd.prog 86 #[.pointer (some ⟨p, 0, none⟩), .iface 134 (.float .f32 part)] w fun e w' => e = .returned (.int .i64 a) ∧ Below w.heap.size w w' := fun a h => h ▸ checkStep_any G part p w HG.out HT.out HP.out
  rcases askT_or G part with ha | ha
  · have CA := Lib.hid (CK 0 ha)
    rw [ha]
    clear CK ha
    cases hy : hoursB y
    · by_cases h1 : y < 0
      · clear hy
        go_enter Tryd.func90, Tryd.ntmps90
        go_wp2_with (go_at_call 86; refine CA.out.mono ?_; rintro e V ⟨rfl, hb⟩; have Hb := Lib.hid hb; clear hb)
        go_ret
        exact ⟨rfl, Hb.out⟩
      · have h2 : 400 < y := by simp [hoursB] at hy; omega
        clear hy
        go_enter Tryd.func90, Tryd.ntmps90
        go_wp2_with (go_at_call 86; refine CA.out.mono ?_; rintro e V ⟨rfl, hb⟩; have Hb := Lib.hid hb; clear hb)
        go_ret
        exact ⟨rfl, Hb.out⟩
    · have h1 : ¬ y < 0 := by simp [hoursB] at hy; omega
      have h2 : ¬ 400 < y := by simp [hoursB] at hy; omega
      clear hy
      go_enter Tryd.func90, Tryd.ntmps90
      go_wp2_with (go_at_call 86; refine CA.out.mono ?_; rintro e V ⟨rfl, hb⟩; have Hb := Lib.hid hb; clear hb)
      go_ret
      exact ⟨rfl, Hb.out⟩
  · have CA := Lib.hid (CK 1 ha)
    rw [ha]
    clear CK ha
    go_enter Tryd.func90, Tryd.ntmps90
    go_wp2_with (go_at_call 86; refine CA.out.mono ?_; rintro e V ⟨rfl, hb⟩; have Hb := Lib.hid hb; clear hb)
    go_ret
    exact ⟨rfl, Hb.out⟩

set_option maxRecDepth 100000 in
set_option maxHeartbeats 4000000 in
theorem implSteps1_any (G : Gd) (part x : Nat) (y : Int) (w : World) (hG : GdOk G) (hT : TabAt w) (hy : -9223372036854775808 ≤ y ∧ y ≤ 9223372036854775807) :
    Calls Tryd.prog 46 #[.agg (Grd G), .float .f32 part, .float .f32 x, .int .i64 y] w fun e w' => e = .returned (tripU (stuV G part x y)) ∧ Below w.heap.size w w' := by
  have hz := (zero_of_info zeroGround).1
  go_enter Tryd.func46, Tryd.ntmps46
  go_upto_region 1 with (fail)
  obtain ⟨W, hW, zW, g1, g2, hB⟩ := gbox2 G zG 35 35 w
  rw [hW]
  clear hW
  have G1 := Lib.hid g1
  have G2 := Lib.hid g2
  have HB := Lib.hid hB
  have HG := Lib.hid hG
  have hTw := Lib.hid hT
  have HT := Lib.hid (hT.below hB (tab_lt hT))
  have t0 := g2.there
  clear g1 g2 hB hG hT
  cases hx : plainB x
  · have Hx := Lib.hid hx
    have HE := Lib.hid (show stuV G part x y = (zG, 0, 1) by simp [stuV, hx])
    clear hx
    go_wp2_with (first | (go_at_call 52; refine (isPlain_is x false Hx.out _).mono ?_; rintro e w' ⟨rfl, rfl⟩) | (refine st_stage 35 rfl ?_; refine wpList_store_mid rfl 35 _ _ rfl _ 0 (Grd (zG)) rfl rfl (by rw [Grd_size]; with_reducible exact t0) (by rw [Grd_size]; exact infoGround) (Grd_one _) ?_))
    refine bodyPost_ret (results_gii rfl _ _ _ zG 0 1 rfl rfl rfl G2.out.store.range Tryd.underlying35 rfl infoG195) rfl ⟨by rw [HE.out]; rfl, below_setCells _ (by omega) _ _ _ HB.out⟩
  · have Hx := Lib.hid hx
    have CKK := fun a (h : (if askT G part = 0 then (if hoursB y = true then (0 : Int) else 2) else 1) = a) => Lib.hid (show Calls Tryd.prog 90 #[.pointer (some ⟨w.heap.size, 0, none⟩), .iface 134 (.float .f32 part), .int .i64 y] W fun e w' => e = .returned (.int .i64 a) ∧ Below W.heap.size W w' from h ▸ checkSteps_any G part w.heap.size y W HG.out HT.out G1.out)
    rcases askT_or G part with ha | ha
    · obtain ⟨hv, hpp⟩ := askT_yes ha
      cases hyy : hoursB y
      · have CA := CKK 2 (by simp [ha, hyy])
        have HE := Lib.hid (show stuV G part x y = (zG, 0, 2) by simp [stuV, hv, hpp, hx, hyy])
        clear CKK ha hv hpp hyy hx t0
        go_wp2_with (first | (go_at_call 52; refine (isPlain_is x true Hx.out _).mono ?_; rintro e w' ⟨rfl, rfl⟩) | (go_at_call 90; refine CA.out.mono ?_; rintro e V ⟨rfl, hb⟩; have S2 := Lib.hid (G2.out.below hb (by omega)); have t1 := S2.out.there; have B2 := Lib.hid (HB.out.trans (hb.mono (by omega))); clear hb) | (refine st_stage 35 rfl ?_; refine wpList_store_mid rfl 35 _ _ rfl _ 0 (Grd (zG)) rfl rfl (by rw [Grd_size]; with_reducible exact t1) (by rw [Grd_size]; exact infoGround) (Grd_one _) ?_))
        refine bodyPost_ret (results_gii rfl _ _ _ zG 0 2 rfl rfl rfl S2.out.store.range Tryd.underlying35 rfl infoG195) rfl ⟨by rw [HE.out]; rfl, below_setCells _ (by omega) _ _ _ B2.out⟩
      · have CA := CKK 0 (by simp [ha, hyy])
        obtain ⟨m, rfl⟩ : ∃ m : Nat, y = (m : Int) := ⟨y.toNat, by simp [hoursB] at hyy; omega⟩
        have hm : m ≤ 400 := by simp [hoursB] at hyy; omega
        obtain ⟨R, hR⟩ : ∃ R, stuR x part m 0 G = R := ⟨_, rfl⟩
        have HE := Lib.hid (show stuV G part x (m : Int) = R by rw [← hR]; simp [stuV, hv, hpp, hx, hyy])
        have HR := Lib.hid hR
        have HVV := Lib.hid (And.intro hv HG.out)
        clear CKK ha hx hv hpp hyy hR hy t0
        go_wp2_with (first | (go_at_call 52; refine (isPlain_is x true Hx.out _).mono ?_; rintro e w' ⟨rfl, rfl⟩) | (go_at_call 90; refine CA.out.mono ?_; rintro e V ⟨rfl, hb⟩; have P1 := Lib.hid (G1.out.below hb (by omega)); have P2 := Lib.hid (G2.out.below hb (by omega)); have TV := Lib.hid (HT.out.below hb (tab_lt HT.out)); have B1 := Lib.hid (HB.out.trans (hb.mono (by omega))); clear hb))
        have glt := tab_lt HT.out
        go_loopw [13] (fun i wr => ∃ (k : Nat) (K : Gd), i = .int .i64 k ∧ k ≤ m ∧ Hid (stuR x part (m - k) (k : Int) K = R) ∧ Hid (validB K = true ∧ GdOk K) ∧ Hid (GBox wr w.heap.size K) ∧ Hid (GBox wr (w.heap.size + 1) zG) ∧ Hid (Below w.heap.size w wr) ∧ Hid (TabAt wr)) (fun i wr => m + 1 - (intOf i).toNat)
        case atStart => exact ⟨0, G, rfl, by omega, HR, HVV, P1, P2, B1, TV⟩
        case round =>
          clear P1 P2 B1 TV
          obtain ⟨k, K, rfl, hk, hU, HV, Q1, Q2, QB, QT⟩ := hrel
          have zr := Q2.out.lt
          have r1 := Q1.out.range
          have hU := hU.out
          have IAR : ∀ b c, (if allFin K = true then (lullB K x, (0 : Int)) else (false, 4)) = (b, c) → Calls Tryd.prog 94 #[.agg (Grd K), .float .f32 x] wr fun e w' => e = .returned (.tuple #[.bool b, .int .i64 c]) ∧ Below wr.heap.size wr w' := fun b c h => by
            cases ha : allFin K
            · rw [ha] at h
              cases h
              exact isCalm_no K x wr HV.out.2 QT.out HV.out.1 ha
            · rw [ha] at h
              cases h
              exact isCalm_fin K x wr HV.out.2 QT.out HV.out.1 ha Hx.out
          cases ha : allFin K
          · have IA := Lib.hid (IAR false 4 (by simp [ha]))
            have HU := Lib.hid ((stuR_nf ha (m - k)).symm.trans hU)
            clear ha hU IAR
            go_wp2_with (first | (refine ld_stage 35 rfl ?_; refine wpList_load_mid rfl 35 _ rfl (w.heap.size) 0 rfl (GrdL (K)) _ r1 Tryd.underlying35 rfl (by rw [GrdL_length]; exact infoGround) ?_) | (go_at_call 94; refine IA.out.mono ?_; rintro e V1 ⟨rfl, hb⟩; have S2 := Lib.hid (Q2.out.below hb Q2.out.lt); have SB := Lib.hid (QB.out.trans (hb.mono (by omega))); have t2 := S2.out.there; clear hb) | (refine st_stage 35 rfl ?_; refine wpList_store_mid rfl 35 _ _ rfl _ 0 (Grd (zG)) rfl rfl (by rw [Grd_size]; with_reducible exact t2) (by rw [Grd_size]; exact infoGround) (Grd_one _) ?_))
            refine bodyPost_ret (results_gii rfl _ _ _ zG 0 4 rfl rfl rfl S2.out.store.range Tryd.underlying35 rfl infoG195) rfl ⟨by rw [HE.out, ← HU.out]; rfl, below_setCells _ (by omega) _ _ _ SB.out⟩
          · cases hl : lullB K x
            · have IA := Lib.hid (IAR false 0 (by simp [ha, hl]))
              by_cases hlt : k = m
              · have HU := Lib.hid (show (zG, 0, 7) = R by rw [← hU, hlt, Nat.sub_self, stuR_end ha hl])
                clear ha hl hU IAR
                subst hlt
                go_wp2_with (first | (refine ld_stage 35 rfl ?_; refine wpList_load_mid rfl 35 _ rfl (w.heap.size) 0 rfl (GrdL (K)) _ r1 Tryd.underlying35 rfl (by rw [GrdL_length]; exact infoGround) ?_) | (go_at_call 94; refine IA.out.mono ?_; rintro e V1 ⟨rfl, hb⟩; have S2 := Lib.hid (Q2.out.below hb Q2.out.lt); have SB := Lib.hid (QB.out.trans (hb.mono (by omega))); have t2 := S2.out.there; clear hb) | (refine st_stage 35 rfl ?_; refine wpList_store_mid rfl 35 _ _ rfl _ 0 (Grd (zG)) rfl rfl (by rw [Grd_size]; with_reducible exact t2) (by rw [Grd_size]; exact infoGround) (Grd_one _) ?_))
                refine bodyPost_ret (results_gii rfl _ _ _ zG 0 7 rfl rfl rfl S2.out.store.range Tryd.underlying35 rfl infoG195) rfl ⟨by rw [HE.out, ← HU.out]; rfl, below_setCells _ (by omega) _ _ _ SB.out⟩
              · obtain ⟨j, hj⟩ : ∃ j, m - k = j + 1 := ⟨m - k - 1, by omega⟩
                have hne : ((k : Int) == (m : Int)) = false := by rw [beq_eq_false_iff_ne]; omega
                rw [hj] at hU
                have hkm : k < m := by omega
                by_cases hs : (stpR K part).2 = 0
                · have HU := Lib.hid ((stuR_on ha hl hs).symm.trans hU)
                  have HVA := Lib.hid (stpR_good (p := part) HV.out.1 HV.out.2 hs)
                  obtain ⟨A, hA⟩ : ∃ A, (stpR K part).1 = A := ⟨_, rfl⟩
                  have HN := Lib.hid (show GN (stpR K part).1 (stpR K part).2 = .tuple #[.agg (Grd A), .int .i64 0] by rw [hA, hs]; rfl)
                  rw [hA] at HU HVA
                  clear ha hl hU hs hA IAR
                  go_wp2_with (first | (refine ld_stage 35 rfl ?_; refine wpList_load_mid rfl 35 _ rfl (w.heap.size) 0 rfl (GrdL (K)) _ r1 Tryd.underlying35 rfl (by rw [GrdL_length]; exact infoGround) ?_) | (refine ld_stage 35 rfl ?_; refine wpList_load_mid rfl 35 _ rfl (w.heap.size) 0 rfl (GrdL (K)) _ r2 Tryd.underlying35 rfl (by rw [GrdL_length]; exact infoGround) ?_) | (go_at_call 94; refine IA.out.mono ?_; rintro e V1 ⟨rfl, hb⟩; have S1 := Lib.hid (Q1.out.below hb Q1.out.lt); have S2 := Lib.hid (Q2.out.below hb Q2.out.lt); have ST := Lib.hid (QT.out.below hb (tab_lt QT.out)); have SB := Lib.hid (QB.out.trans (hb.mono (by omega))); have r2 := S1.out.range; clear hb) | (go_at_call 87; have hc := behind_any K part V1 HV.out.1 HV.out.2 ST.out; rw [HN.out] at hc; refine hc.mono ?_; clear hc; rintro e V2 ⟨rfl, hb⟩; have T1 := Lib.hid (S1.out.below hb S1.out.lt); have T2 := Lib.hid (S2.out.below hb S2.out.lt); have TT := Lib.hid (ST.out.below hb (tab_lt ST.out)); have TB := Lib.hid (SB.out.trans (hb.mono SB.out.size)); have tt := T1.out.there; clear hb) | (refine st_stage 35 rfl ?_; refine wpList_store_mid rfl 35 _ _ rfl _ 0 (Grd (A)) rfl rfl (by rw [Grd_size]; with_reducible exact tt) (by rw [Grd_size]; exact infoGround) (Grd_one _) ?_))
                  have TS := Lib.hid (TT.out.below (below_setCells (B := w.heap.size) w.heap.size (Nat.le_refl _) (Grd A).toList 0 V2 (Below.refl _ V2)) (tab_lt hTw.out))
                  go_roundw
                  case rel => exact ⟨k + 1, A, by go_num, by omega, Lib.hid (by rw [show m - (k + 1) = j by omega]; exact HU.out), HVA, Lib.hid T1.out.store, Lib.hid (T2.out.fars (by omega)), Lib.hid (below_setCells _ (Nat.le_refl _) _ _ _ TB.out), TS⟩
                  case measure => simp [intOf]; omega
                · have HU := Lib.hid ((stuR_no ha hl hs).symm.trans hU)
                  have h4 := stpR_code4 hs
                  have HN := Lib.hid (show GN (stpR K part).1 (stpR K part).2 = .tuple #[.agg (Grd zG), .int .i64 4] by rw [h4]; rfl)
                  have HU := Lib.hid (show (zG, 0, 4) = R by rw [← HU.out, h4])
                  clear ha hl hU hs h4 IAR
                  go_wp2_with (first | (refine ld_stage 35 rfl ?_; refine wpList_load_mid rfl 35 _ rfl (w.heap.size) 0 rfl (GrdL (K)) _ r1 Tryd.underlying35 rfl (by rw [GrdL_length]; exact infoGround) ?_) | (refine ld_stage 35 rfl ?_; refine wpList_load_mid rfl 35 _ rfl (w.heap.size) 0 rfl (GrdL (K)) _ r2 Tryd.underlying35 rfl (by rw [GrdL_length]; exact infoGround) ?_) | (go_at_call 94; refine IA.out.mono ?_; rintro e V1 ⟨rfl, hb⟩; have S1 := Lib.hid (Q1.out.below hb Q1.out.lt); have S2 := Lib.hid (Q2.out.below hb Q2.out.lt); have ST := Lib.hid (QT.out.below hb (tab_lt QT.out)); have SB := Lib.hid (QB.out.trans (hb.mono (by omega))); have r2 := S1.out.range; clear hb) | (go_at_call 87; have hc := behind_any K part V1 HV.out.1 HV.out.2 ST.out; rw [HN.out] at hc; refine hc.mono ?_; clear hc; rintro e V2 ⟨rfl, hb⟩; have T1 := Lib.hid (S1.out.below hb S1.out.lt); have T2 := Lib.hid (S2.out.below hb S2.out.lt); have TB := Lib.hid (SB.out.trans (hb.mono SB.out.size)); have tt := T1.out.there; have TF := Lib.hid (T2.out.fars (b' := w.heap.size) (vs := (Grd zG).toList) (k := 0) (by omega)); have tu := TF.out.there; clear hb) | (refine st_stage 35 rfl ?_; refine wpList_store_mid rfl 35 _ _ rfl _ 0 (Grd (zG)) rfl rfl (by rw [Grd_size]; with_reducible exact tt) (by rw [Grd_size]; exact infoGround) (Grd_one _) ?_) | (refine st_stage 35 rfl ?_; refine wpList_store_mid rfl 35 _ _ rfl _ 0 (Grd (zG)) rfl rfl (by rw [Grd_size]; with_reducible exact tu) (by rw [Grd_size]; exact infoGround) (Grd_one _) ?_))
                  refine bodyPost_ret (results_gii rfl _ _ _ zG 0 4 rfl rfl rfl TF.out.store.range Tryd.underlying35 rfl infoG195) rfl ⟨by rw [HE.out, ← HU.out]; rfl, below_setCells _ (by omega) _ _ _ (below_setCells _ (Nat.le_refl _) _ _ _ TB.out)⟩
            · have IA := Lib.hid (IAR true 0 (by simp [ha, hl]))
              have HU := Lib.hid ((stuR_calm ha hl (m - k)).symm.trans hU)
              clear ha hl hU IAR
              go_wp2_with (first | (refine ld_stage 35 rfl ?_; refine wpList_load_mid rfl 35 _ rfl (w.heap.size) 0 rfl (GrdL (K)) _ r1 Tryd.underlying35 rfl (by rw [GrdL_length]; exact infoGround) ?_) | (refine ld_stage 35 rfl ?_; refine wpList_load_mid rfl 35 _ rfl (w.heap.size) 0 rfl (GrdL (K)) _ r2 Tryd.underlying35 rfl (by rw [GrdL_length]; exact infoGround) ?_) | (go_at_call 94; refine IA.out.mono ?_; rintro e V1 ⟨rfl, hb⟩; have S1 := Lib.hid (Q1.out.below hb Q1.out.lt); have S2 := Lib.hid (Q2.out.below hb Q2.out.lt); have SB := Lib.hid (QB.out.trans (hb.mono (by omega))); have r2 := S1.out.range; have t2 := S2.out.there; clear hb) | (refine st_stage 35 rfl ?_; refine wpList_store_mid rfl 35 _ _ rfl _ 0 (Grd (K)) rfl rfl (by rw [Grd_size]; with_reducible exact t2) (by rw [Grd_size]; exact infoGround) (Grd_one _) ?_))
              refine bodyPost_ret (results_gii rfl _ _ _ K (k : Int) 0 rfl rfl rfl S2.out.store.range Tryd.underlying35 rfl infoG195) rfl ⟨by rw [HE.out, ← HU.out]; rfl, below_setCells _ (by omega) _ _ _ SB.out⟩
    · have CA := CKK 1 (by simp [ha])
      have HE := Lib.hid (show stuV G part x y = (zG, 0, 1) by
        unfold stuV
        rw [if_neg]
        intro h
        simp only [Bool.and_eq_true] at h
        simp [askT, h.1.1, h.1.2] at ha)
      clear CKK ha hx t0
      go_wp2_with (first | (go_at_call 52; refine (isPlain_is x true Hx.out _).mono ?_; rintro e w' ⟨rfl, rfl⟩) | (go_at_call 90; refine CA.out.mono ?_; rintro e V ⟨rfl, hb⟩; have S2 := Lib.hid (G2.out.below hb (by omega)); have t1 := S2.out.there; have B2 := Lib.hid (HB.out.trans (hb.mono (by omega))); clear hb) | (refine st_stage 35 rfl ?_; refine wpList_store_mid rfl 35 _ _ rfl _ 0 (Grd (zG)) rfl rfl (by rw [Grd_size]; with_reducible exact t1) (by rw [Grd_size]; exact infoGround) (Grd_one _) ?_))
      refine bodyPost_ret (results_gii rfl _ _ _ zG 0 1 rfl rfl rfl S2.out.store.range Tryd.underlying35 rfl infoG195) rfl ⟨by rw [HE.out]; rfl, below_setCells _ (by omega) _ _ _ B2.out⟩
end Go.Proofs.YthncidjgpbjdbaaDoor
