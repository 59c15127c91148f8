/- The program's sweep, for every function that tells the next head. Condition: the table of math/bits is laid. -/
import Derived.Test.YtaghnminpfgdcaaGreatDoorSwp
import Derived.Test.YtaghnminpfgdcaaGreatDoorChgS
namespace Go.Proofs.YtaghnminpfgdcaaGreatDoor
open Go Go.RowKit Go.Shelf
attribute [local go_sem] Oper.semAt_some run_store_float
set_option linter.unusedSimpArgs false
set_option linter.unusedVariables false

/-- Every cell below block n that is not of block B lies as it lay. -/
structure AwayC (B n : Nat) (A A' : World) : Prop where
  size : A.heap.size ≤ A'.heap.size
  cell : ∀ (p : Addr) v, p.block < n → p.block ≠ B → A.cell? p = some v → A'.cell? p = some v ∧ A'.frozen? p = A.frozen? p
theorem AwayC.refl (B n : Nat) (A : World) : AwayC B n A A := ⟨Nat.le_refl _, fun _ _ _ _ h => ⟨h, rfl⟩⟩
theorem AwayC.trans {B n : Nat} {A A' A'' : World} (h : AwayC B n A A') (k : AwayC B n A' A'') : AwayC B n A A'' :=
  ⟨Nat.le_trans h.size k.size, fun p v h1 h2 h3 => ⟨(k.cell p v h1 h2 (h.cell p v h1 h2 h3).1).1, (k.cell p v h1 h2 (h.cell p v h1 h2 h3).1).2.trans (h.cell p v h1 h2 h3).2⟩⟩
theorem AwayC.of_ck {B n : Nat} {A A' : World} (h : CK A A') : AwayC B n A A' := ⟨h.size, fun _ _ _ _ hv => ⟨h.cell hv, h.frozen hv⟩⟩
theorem AwayC.of_below {B n : Nat} {A A' : World} (h : Below A.heap.size A A') : AwayC B n A A' :=
  ⟨h.size, fun p v _ _ hv => ⟨(h.cell (World.block_lt_of_cell? A p hv)).trans hv, h.frozen (World.block_lt_of_cell? A p hv)⟩⟩
theorem AwayC.put {B n : Nat} {A : World} {k : Nat} {v : Value} {b : Nat} (h : b = B ∨ n ≤ b) : AwayC B n A (A.setCell ⟨b, k, none⟩ v) :=
  ⟨by simp [World.setCell], fun p u h1 h2 hu => ⟨(cell_other (fun e => by subst e; simp at h1 h2; omega)).trans hu, World.frozen?_setCell _ _ _ _⟩⟩

/-- Three cells, each in a block of its own that has just been made. -/
theorem three_cells (x y z : Value) (t u v : TypeId) (w : World) : ∃ X, ((w.alloc (.cells #[x] t)).alloc (.cells #[y] u)).alloc (.cells #[z] v) = X ∧ X.heap.size = w.heap.size + 1 + 1 + 1 ∧ X.cell? ⟨w.heap.size, 0, none⟩ = some x ∧ X.cell? ⟨w.heap.size + 1, 0, none⟩ = some y ∧ X.cell? ⟨w.heap.size + 1 + 1, 0, none⟩ = some z ∧ X.frozen? ⟨w.heap.size + 1 + 1, 0, none⟩ = false ∧ Below w.heap.size w X := by
  have z1 : (w.alloc (.cells #[x] t)).heap.size = w.heap.size + 1 := World.size_alloc _ _
  have z2 : ((w.alloc (.cells #[x] t)).alloc (.cells #[y] u)).heap.size = w.heap.size + 1 + 1 := by rw [World.size_alloc, z1]
  have b1 : Below w.heap.size w (w.alloc (.cells #[x] t)) := (Below.refl _ _).alloc (Nat.le_refl _) _
  have b2 : Below (w.heap.size + 1) (w.alloc (.cells #[x] t)) ((w.alloc (.cells #[x] t)).alloc (.cells #[y] u)) := (Below.refl _ _).alloc (by omega) _
  have b3 : Below (w.heap.size + 1 + 1) ((w.alloc (.cells #[x] t)).alloc (.cells #[y] u)) (((w.alloc (.cells #[x] t)).alloc (.cells #[y] u)).alloc (.cells #[z] v)) := (Below.refl _ _).alloc (by omega) _
  have c1 : (w.alloc (.cells #[x] t)).cell? ⟨w.heap.size, 0, none⟩ = some x := cell_of_row _ _ 0 _ _ _ (heap_alloc_last w _)
  have c2 : ((w.alloc (.cells #[x] t)).alloc (.cells #[y] u)).cell? ⟨w.heap.size + 1, 0, none⟩ = some y := by rw [← z1]; exact cell_of_row _ _ 0 _ _ _ (heap_alloc_last _ _)
  have c3 : (((w.alloc (.cells #[x] t)).alloc (.cells #[y] u)).alloc (.cells #[z] v)).cell? ⟨w.heap.size + 1 + 1, 0, none⟩ = some z := by rw [← z2]; exact cell_of_row _ _ 0 _ _ _ (heap_alloc_last _ _)
  have f3 : (((w.alloc (.cells #[x] t)).alloc (.cells #[y] u)).alloc (.cells #[z] v)).frozen? ⟨w.heap.size + 1 + 1, 0, none⟩ = false := by rw [← z2]; have := (there_row (n := 1) (heap_alloc_last ((w.alloc (.cells #[x] t)).alloc (.cells #[y] u)) (.cells #[z] v)) rfl 0 (by omega)).2; rwa [Nat.zero_add] at this
  exact ⟨_, rfl, by rw [World.size_alloc, z2], (b3.cell (p := ⟨w.heap.size, 0, none⟩) (by simp; omega)).trans ((b2.cell (p := ⟨w.heap.size, 0, none⟩) (by simp)).trans c1), (b3.cell (p := ⟨w.heap.size + 1, 0, none⟩) (by simp)).trans c2, c3, f3, b1.trans ((b2.mono (by omega)).trans (b3.mono (by omega)))⟩

theorem plain_nan {b : Nat} (h : nanK .f32 b = true) : plainB b = false := by
  rw [nanK_read] at h
  have ho : ∀ c, FloatKind.f32.format.order b c = none := fun c => by
    unfold Ieee.Format.order
    cases hr : FloatKind.f32.format.read b <;> simp_all [Ieee.Datum.isNaN, Ieee.Datum.order]
  simp [plainB, ho]
theorem plainO_num (b : Nat) : plainO (num .f32 b) = plainB b := by
  cases h : nanK .f32 b
  · simp [num, h, plainO]
  · simp [num, h, plainO, plain_nan h]

/-- max of two sizes, as an operation. -/
theorem max_op {P : Program} {op : Oper} {a : Act} {p q : Operand} {ts : Array TypeId} {x y : Nat} (w : World) (ho : op.op = .call { callee := .builtin .max, args := #[p, q], argTypes := ts }) (hx : a.eval p = .float .f32 x) (hy : a.eval q = .float .f32 y)
    (n1 : nanK .f32 x = false) (n2 : nanK .f32 y = false) (hs : x < 2147483648) : (execOp a.eval op).run P w = .ok (.value (.float .f32 (maxN x y))) w := by
  have hm := fun (tt : Array TypeId) (t : TypeId) => max_sizes (P := P) w tt t x y n1 n2 hs
  unfold execOp
  simp only [ho]
  simp only [resolve, hx, hy, Sem.run_bind, Sem.run_pure, Result.andThen, invoke, List.map_toArray, List.map_cons, List.map_nil]
  simp [hm, go_sem]
theorem chg_is {b h s t : Nat} (ht : fop .f32 .sub (num .f32 b) (num .f32 h) = some t) (hs : num .f32 s = sizeO (fop .f32 .sub (num .f32 b) (num .f32 h))) : s = chgN b h ∧ nanK .f32 s = false ∧ s < 2147483648 := by
  rw [ht] at hs
  obtain ⟨e, hn⟩ := num_eq_some (show num .f32 s = some (absN t) from hs)
  have hc : chgN b h = absN t := by unfold chgN; rw [ht]; rfl
  refine ⟨e.trans hc.symm, hn, ?_⟩
  rw [e]
  unfold absN
  omega
theorem maxN_ok {x y : Nat} (n1 : nanK .f32 x = false) (s1 : x < 2147483648) (n2 : nanK .f32 y = false) (s2 : y < 2147483648) : nanK .f32 (maxN x y) = false ∧ maxN x y < 2147483648 := by
  unfold maxN
  split
  · exact ⟨n2, s2⟩
  · exact ⟨n1, s1⟩

theorem soft_normal {Q : Exit → Act → World → Prop} {a : Act} {w : World} (h : Q .normal a w) : Soft Q .normal a w := h

/-- A call of a function value. -/
theorem call_value {P : Program} {op : Oper} {a : Act} {w : World} {g : Operand} {ar : Array Operand} {ts : Array TypeId} {nf : Nat} {caps : Array Value} (ho : op.op = .call { callee := .value g, args := ar, argTypes := ts }) (hg : a.eval g = .func (.func nf) #[] caps)
    (he : ∀ args w, (callFunc nf args).run P w = .ok (.enter nf args) w) : (execOp a.eval op).run P w = .ok (.enter nf (ar.map a.eval ++ caps)) w := by
  unfold execOp
  simp only [ho]
  simp only [resolve, hg, Sem.run_bind, Sem.run_pure, Result.andThen, invoke, Deferred.ofValue, Array.empty_append]
  exact he _ _

set_option maxRecDepth 100000 in
set_option maxHeartbeats 4000000 in
theorem implSweep (nx : Gd → Nat → Option Nat) (nf : Nat) (caps : Array Value) (hen : ∀ args w, (callFunc nf args).run Tryz.prog w = .ok (.enter nf args) w) (B : Nat) (w : World)
    (hnx : ∀ (H : Gd) (k : Nat) (V : World), k < 64 → isB H k = true → validB H = true → GdOk H → GBox V B H → AwayC B w.heap.size w V → Below B w V →
      Calls Tryz.prog nf (#[.pointer (some ⟨B, 0, none⟩), .int .i64 k] ++ caps) V fun e V' => ∃ b, e = .returned (.float .f32 b) ∧ num .f32 b = nx H k ∧ Below V.heap.size V V')
    (G : Gd) (hB : GBox w B G) (hv : validB G = true) (hG : GdOk G) (hT : TabAt w) (hBt : 1 < B) :
    Calls Tryz.prog 141 #[.pointer (some ⟨B, 0, none⟩), .func (.func nf) #[] caps] w fun e w' => Below B w w' ∧ AwayC B w.heap.size w w' ∧
      (((swp nx G (bitsL (cellsN G))).2.1 = true ∧ e = .returned (.float .f32 (swp nx G (bitsL (cellsN G))).2.2) ∧ GBox w' B (swp nx G (bitsL (cellsN G))).1) ∨
       ((swp nx G (bitsL (cellsN G))).2.1 = false ∧ e = .panicked [{ v := noGround, recovered := false }])) := by
  have hlB := hB.lt
  have HB := Lib.hid hB
  have HV := Lib.hid hv
  have HG := Lib.hid hG
  have HT := Lib.hid hT
  have HN := Lib.hid hnx
  have m64 := cellsN_lt G
  clear hB hv hG hT hnx
  refine (callsIn_wide (n := 6)).1 (calls_of_wpAt Tryz.func141 rfl ?_)
  simp only [Tryz.ntmps141, List.size_toArray, List.length_cons, List.length_nil, Nat.reduceAdd, Nat.reduceSub, Array.replicate_succ, Array.replicate_zero, List.push_toArray, List.append_toArray, List.nil_append, List.cons_append]
  refine WpAt.seq (WpAt.of_wp ?_)
  go_wp2
  refine WpAt.seq (WpAt.of_wp ?_)
  go_wp2
  obtain ⟨X, hX, zX, x1, x2, x3, x4, bX⟩ := three_cells (.pointer (some ⟨B, 0, none⟩)) (.func (.func nf) #[] caps) (.float .f32 0) 99 218 23 w
  rw [hX]
  clear hX
  have X0 := Lib.hid (HB.out.below bX hlB)
  have TX := Lib.hid (HT.out.below bX (tab_lt HT.out))
  have AX := Lib.hid (AwayC.of_below (B := B) (n := w.heap.size) bX)
  have BX := Lib.hid (bX.mono (Nat.le_of_lt hlB) : Below B w X)
  have hXl : w.heap.size + 1 + 1 < X.heap.size := by omega
  clear bX HB HT zX
  refine WpAt.seq (WpAt.seq (WpAt.of_wp ?_))
  go_wp2_with (first | (go_at_call 136; refine (cells_valid G HV.out _ _ X0.out.at').mono ?_; rintro e w' ⟨rfl, rfl⟩) | (go_at_call 137; refine (bitsIn_any (cellsN G) _).mono ?_; rintro e w' ⟨rfl, rfl⟩))
  obtain ⟨U, hU⟩ : ∃ U, X.alloc (.cells #[.int .u64 (cellsN G)] 25) = U := ⟨_, rfl⟩
  have hbU : Below X.heap.size X U := by rw [← hU]; exact (Below.refl _ _).alloc (Nat.le_refl _) _
  have cM : U.cell? ⟨X.heap.size, 0, none⟩ = some (.int .u64 (cellsN G)) := by rw [← hU]; exact cell_of_row _ _ 0 _ _ _ (heap_alloc_last X _)
  have zU : X.heap.size < U.heap.size := by rw [← hU]; simp
  have u0 := X0.out.below hbU X0.out.lt
  have u1 := kc x1 (by omega) _ hbU
  have u2 := kc x2 (by omega) _ hbU
  have u3 := kc x3 (by omega) _ hbU
  have u4 : U.frozen? ⟨w.heap.size + 1 + 1, 0, none⟩ = false := (hbU.frozen (p := ⟨w.heap.size + 1 + 1, 0, none⟩) (by simp; omega)).trans x4
  have AU := Lib.hid (AX.out.trans (AwayC.of_below hbU))
  have BU := Lib.hid (BX.out.trans (hbU.mono (by omega)))
  have TU := TX.out.below hbU (tab_lt TX.out)
  rw [hU]
  clear hU hbU X0 AX BX TX x1 x2 x3 x4
  refine WpAt.block (wp_bitsP (fn0 := Tryz.f141) rfl 10 11 6 X.heap.size B (cellsN G) m64 rfl cM TU hBt (by omega)
    (fun pre W2 => ((swp nx G pre).2.1 = true ∧ nanK .f32 (swp nx G pre).2.2 = false ∧ (swp nx G pre).2.2 < 2147483648) ∧ GBox W2 B (swp nx G pre).1 ∧ W2.cell? ⟨w.heap.size, 0, none⟩ = some (.pointer (some ⟨B, 0, none⟩)) ∧ W2.cell? ⟨w.heap.size + 1, 0, none⟩ = some (.func (.func nf) #[] caps) ∧ W2.cell? ⟨w.heap.size + 1 + 1, 0, none⟩ = some (.float .f32 (swp nx G pre).2.2) ∧ W2.frozen? ⟨w.heap.size + 1 + 1, 0, none⟩ = false ∧ AwayC B w.heap.size w W2)
    (fun ch W2 => ch = [{ v := noGround, recovered := false }] ∧ (swp nx G (bitsL (cellsN G))).2.1 = false ∧ AwayC B w.heap.size w W2 ∧ Below B w W2)
    (fun s A A' h ⟨a1, a2, a3, a4, a5, a6, a7⟩ => ⟨a1, h.box a2, h.cell a3, h.cell a4, h.cell a5, (h.frozen a5).trans a6, a7.trans (AwayC.of_ck h)⟩)
    ⟨⟨rfl, by show nanK .f32 0 = false; decide +kernel, by show 0 < 2147483648; omega⟩, u0, u1, u2, u3, u4, AU.out⟩ ?assign ?body ?done ?panic)
  case assign =>
    intro l x W K hK
    simp only [List.setIfInBounds_toArray, List.set_cons_zero, List.set_cons_succ] at hK ⊢
    gi_wp2
    exact hK
  case body =>
    rintro l pre x W2 ⟨⟨a1, m1, m2⟩, a2, a3, a4, a5, a6, a7⟩ hB2 hbit hx64 hpre
    simp only [List.setIfInBounds_toArray, List.set_cons_zero, List.set_cons_succ]
    have hi : isB G x.1 = true := by have := hbit; rw [cellsN_testBit] at this; simp at this; exact this.2
    have hall : ∀ k ∈ nos pre, k < 64 ∧ isB G k = true := fun k hk => by
      have h1 : k ∈ bitsL (cellsN G) := hpre.subset (by rw [nos_snoc]; simp [hk])
      have h2 := (mem_bitsL.1 h1).2
      rw [cellsN_testBit] at h2; simp at h2; exact ⟨(mem_bitsL.1 h1).1, h2.2⟩
    have hvH := swp_valid nx HV.out HG.out (nos pre) hall a1
    have hiH := (swp_isB nx G (nos pre) x.1).trans hi
    have hS : swp nx G (nos (pre ++ [x])) = swStep nx (swp nx G (nos pre)) x.1 := by rw [nos_snoc, swp_snoc]
    obtain ⟨s, hs⟩ : ∃ s, swp nx G (nos pre) = s := ⟨_, rfl⟩
    rw [hs] at a1 m1 m2 a2 a5 hvH hiH hS
    obtain ⟨H, ok, mg⟩ := s
    dsimp only at a1 m1 m2 a2 a5 hvH hiH
    have M1 := Lib.hid m1
    have M2 := Lib.hid m2
    have hhH := a2.at'.h
    rw [Nat.zero_add] at hhH
    have cH := Grd_fld hhH x.1 hx64
    have hx2 : (x.1 : Int) < 64 := by omega
    have hzB := hB2.size
    have A1 := Lib.hid a1
    have A2 := Lib.hid a2
    have A4 := Lib.hid a4
    have A5 := Lib.hid a5
    have A6 := Lib.hid a6
    have A7 := Lib.hid a7
    have HS := Lib.hid hS
    have HP := Lib.hid hpre
    have HVH := Lib.hid hvH
    have HIH := Lib.hid hiH
    have HB2 := Lib.hid hB2
    clear a1 m1 m2 a2 a4 a5 a6 a7 hi hall hvH hiH hS hs hB2 hbit hpre u0 u1 u2 u3 u4 cM TU hhH
    gi_upto_region 5 with (fail)
    refine wpIn_region_plan (ops' := regOf Tryz.f141 5) (.take 0 (.take 1 (.take 2 (.take 3 (.take 4 (.run 5 (.run 6 .fin))))))) (fun V => V.cell? ⟨w.heap.size, 0, none⟩ = some (.pointer (some ⟨B, 0, none⟩)) ∧ V.cell? ⟨w.heap.size + 1, 0, none⟩ = some (.func (.func nf) #[] caps)) (by kernel_rfl) (by kernel_rfl) (by kernel_rfl) (by kernel_rfl) (by kernel_rfl) (by kernel_rfl) (by rintro c a d v w ⟨h1, h2⟩; refine And.intro ?_ h2; cases d <;> exact h1) ⟨a3, A4.out⟩ ?_
    refine plan_take (some 18) (.pointer (some ⟨B, 0, none⟩)) (by kernel_rfl) (by kernel_rfl) (.inl ⟨by kernel_rfl, fun V hV => load_cell (ty := 99) (x := .tmp 2) (b := w.heap.size) (o := 0) (by kernel_rfl) (by kernel_rfl) Tryz.underlying99 rfl hV.1⟩) ?_
    refine plan_pure (some 19) (.int .i64 (x.1 : Int)) (by kernel_rfl) (by kernel_rfl) (by kernel_rfl) (fun _ => by kernel_rfl) ?_
    refine plan_take (some 20) (.func (.func nf) #[] caps) (by kernel_rfl) (by kernel_rfl) (.inl ⟨by kernel_rfl, fun V hV => load_cell (ty := 218) (x := .tmp 3) (b := w.heap.size + 1) (o := 0) (by kernel_rfl) (by kernel_rfl) Tryz.underlying218 rfl hV.2⟩) ?_
    refine plan_take (some 21) (.pointer (some ⟨B, 0, none⟩)) (by kernel_rfl) (by kernel_rfl) (.inl ⟨by kernel_rfl, fun V hV => load_cell (ty := 99) (x := .tmp 2) (b := w.heap.size) (o := 0) (by kernel_rfl) (by kernel_rfl) Tryz.underlying99 rfl hV.1⟩) ?_
    refine plan_pure (some 22) (.int .i64 (x.1 : Int)) (by kernel_rfl) (by kernel_rfl) (by kernel_rfl) (fun _ => by kernel_rfl) ?_
    refine plan_callP (some 23) nf (#[.pointer (some ⟨B, 0, none⟩), .int .i64 (x.1 : Int)] ++ caps) (by kernel_rfl) (by kernel_rfl) (by kernel_rfl) ((call_value (g := .tmp 20) (ar := #[.tmp 21, .tmp 22]) (ts := #[99, 2]) (caps := caps) (by kernel_rfl) (by kernel_rfl) hen).trans (by kernel_rfl)) ?_
    refine (HN.out H x.1 W2.drew hx64 HIH.out HVH.out.1 HVH.out.2 (A2.out.below (Below.refl _ _).drew A2.out.lt) (A7.out.trans (AwayC.of_below (Below.refl _ _).drew)) ((BU.out.trans HB2.out).drew)).mono ?_
    rintro e V ⟨b, rfl, hb, hbV⟩
    have hdV : Below W2.heap.size W2 V := (Below.refl _ _).drew.trans hbV
    have v3 := kc a3 (by omega) _ hdV
    have v4 := kc A4.out (by omega) _ hdV
    have v5 := kc A5.out (by omega) _ hdV
    have v6 : V.frozen? ⟨w.heap.size + 1 + 1, 0, none⟩ = false := (hdV.frozen (p := ⟨w.heap.size + 1 + 1, 0, none⟩) (by simp; omega)).trans A6.out
    have v0 := A2.out.below hdV A2.out.lt
    have hdB : Below B W2 V := hdV.mono (Nat.le_of_lt A2.out.lt)
    refine .inl ⟨_, rfl, ⟨v3, v4⟩, ?_⟩
    cases hp : plainB b
    · refine plan_callP (some 24) 156 #[.pointer (some ⟨B, 0, none⟩), .int .i64 (x.1 : Int), .float .f32 b] (by kernel_rfl) (by kernel_rfl) (by kernel_rfl) (by kernel_rfl) ?_
      refine (setHead_no _ _ b V hp).mono ?_
      rintro e V' ⟨rfl, rfl⟩
      refine .inr ⟨_, rfl, ?_⟩
      refine And.intro (by kernel_rfl) ⟨KeepsOthers.of_below' hdV, rfl, swp_no nx G HP.out ?_, A7.out.trans (AwayC.of_below hdV), (BU.out.trans HB2.out).trans hdB⟩
      rw [HS.out]
      show (ok && plainO (nx H x.1)) = false
      rw [← hb, plainO_num, hp]
      simp
    · have hnx : nx H x.1 = some b := by
        rw [← hb]
        refine num_some ?_
        cases h : nanK .f32 b
        · rfl
        · rw [plain_nan h] at hp; cases hp
      refine plan_callP (some 24) 156 #[.pointer (some ⟨B, 0, none⟩), .int .i64 (x.1 : Int), .float .f32 b] (by kernel_rfl) (by kernel_rfl) (by kernel_rfl) (by kernel_rfl) ?_
      refine (setHead_yes H B x.1 b hx64 V v0 hp).mono ?_
      rintro e V' ⟨⟨vr, rfl⟩, rfl⟩
      have y0 := v0.putH (x := b) hx64
      have y3 : (V.setCell ⟨B, 130 + x.1, none⟩ (.float .f32 b)).cell? ⟨w.heap.size, 0, none⟩ = _ := (cell_other (fun e => by injection e; omega)).trans v3
      have y4 : (V.setCell ⟨B, 130 + x.1, none⟩ (.float .f32 b)).cell? ⟨w.heap.size + 1, 0, none⟩ = _ := (cell_other (fun e => by injection e; omega)).trans v4
      have y5 : (V.setCell ⟨B, 130 + x.1, none⟩ (.float .f32 b)).cell? ⟨w.heap.size + 1 + 1, 0, none⟩ = _ := (cell_other (fun e => by injection e; omega)).trans v5
      have y6 : (V.setCell ⟨B, 130 + x.1, none⟩ (.float .f32 b)).frozen? ⟨w.heap.size + 1 + 1, 0, none⟩ = false := by rw [World.frozen?_setCell]; exact v6
      have y7 : KeepsOthers W2 (V.setCell ⟨B, 130 + x.1, none⟩ (.float .f32 b)) := (KeepsOthers.of_below' hdV).trans (KeepsOthers.setCell _ _ _)
      have y8 : Below B W2 (V.setCell ⟨B, 130 + x.1, none⟩ (.float .f32 b)) := hdB.setCell (p := ⟨B, 130 + x.1, none⟩) (Nat.le_refl _) _
      have y9 : AwayC B w.heap.size w (V.setCell ⟨B, 130 + x.1, none⟩ (.float .f32 b)) := (A7.out.trans (AwayC.of_below hdV)).trans (AwayC.put (.inl rfl))
      obtain ⟨Y, hY⟩ : ∃ Y, V.setCell ⟨B, 130 + x.1, none⟩ (.float .f32 b) = Y := ⟨_, rfl⟩
      rw [hY] at y0 y3 y4 y5 y6 y7 y8 y9 ⊢
      refine .inl ⟨vr, rfl, ⟨y3, y4⟩, plan_end (soft_normal ?_)⟩
      have hh := y0.at'.h
      rw [Nat.zero_add] at hh
      have cY := Grd_fld hh x.1 hx64
      have hub : upd H.h x.1 b x.1 = b := by simp [upd]
      rw [show ({ H with h := upd H.h x.1 b } : Gd).h x.1 = b from hub] at cY
      have Y0 := Lib.hid y0
      have Y4 := Lib.hid y4
      have Y7 := Lib.hid y7
      have Y8 := Lib.hid y8
      have Y9 := Lib.hid y9
      have HNX := Lib.hid hnx
      have HPB := Lib.hid hp
      clear hY hb hnx hp v0 v3 v4 v5 v6 y0 y4 y7 y8 y9 hdV hdB hbV hh hub cH a3
      simp only [Act.put, List.setIfInBounds_toArray, List.set_cons_zero, List.set_cons_succ]
      gi_upto_region 6 with (fail)
      obtain ⟨t, ht, _, _⟩ := plain_sub HPB.out (valid_heads HVH.out.1 hx64 HIH.out)
      refine wpIn_region_calm (ops' := regOf Tryz.f141 6) [0, 1, 2, 3, 4, 5, 6, 7, 8, 9, 10] [11] (.run 11 .fin) (Quiet Y) [(0, One (.float .f32 mg)), (1, One (.pointer (some ⟨B, 0, none⟩))), (2, One (.int .i64 (x.1 : Int))), (3, One (.pointer (some ⟨B, 0, none⟩))), (4, One (.pointer (some ⟨B, 130, none⟩))), (5, One (.pointer (some ⟨B, 130 + x.1, none⟩))), (6, One (.float .f32 b)), (7, One (.float .f32 (H.h x.1))), (8, Numv .f32 (fop .f32 .sub (num .f32 b) (num .f32 (H.h x.1)))), (9, Numv .f32 (sizeO (fop .f32 .sub (num .f32 b) (num .f32 (H.h x.1))))), (10, One (.float .f32 (maxN mg (chgN b (H.h x.1)))))] (by kernel_rfl) (by kernel_rfl) (by kernel_rfl) (by kernel_rfl) (by kernel_rfl) (by kernel_rfl) (by kernel_rfl) (by kernel_rfl) (by kernel_rfl) rfl ((Quiet.refl _).drewN 1) ?_
      refine calm_read (some 25) (by kernel_rfl) (by kernel_rfl) (by kernel_rfl) (fun w' hw' => load_cell (ty := 23) (x := .tmp 5) (b := (w.heap.size + 1 + 1)) (o := 0) (by kernel_rfl) (by kernel_rfl) Tryz.underlying23 rfl (kq y5 w' hw')) ?_
      refine calm_read (some 26) (by kernel_rfl) (by kernel_rfl) (by kernel_rfl) (fun w' hw' => load_cell (ty := 99) (x := .tmp 2) (b := w.heap.size) (o := 0) (by kernel_rfl) (by kernel_rfl) Tryz.underlying99 rfl (kq y3 w' hw')) ?_
      refine calm_pure (some 27) (by kernel_rfl) (by kernel_rfl) (by kernel_rfl) (fun _ => by kernel_rfl) ?_
      refine calm_pure (some 28) (by kernel_rfl) (by kernel_rfl) (by kernel_rfl) (fun _ => by kernel_rfl) ?_
      refine calm_pure (some 29) (by kernel_rfl) (by kernel_rfl) (by kernel_rfl) (fun _ => by kernel_rfl) ?_
      refine calm_pure (some 30) (by kernel_rfl) (by kernel_rfl) (by kernel_rfl) (index_fld (x := .tmp 29) (y := .tmp 27) (o := 130) (by kernel_rfl) (by kernel_rfl) (by kernel_rfl) hx64) ?_
      refine calm_read (some 31) (by kernel_rfl) (by kernel_rfl) (by kernel_rfl) (fun w' hw' => load_cell (ty := 23) (x := .tmp 30) (b := B) (o := 130 + x.1) (by kernel_rfl) (by kernel_rfl) Tryz.underlying23 rfl (kq cY w' hw')) ?_
      refine calm_pure (some 32) (by kernel_rfl) (by kernel_rfl) (by kernel_rfl) (fun _ => by kernel_rfl) ?_
      refine calm_float (some 33) .f32 .sub 23 23 (.tmp 31) (.tmp 32) (b) ((H.h x.1)) (by kernel_rfl) (by kernel_rfl) (by kernel_rfl) (by kernel_rfl) rfl (by kernel_rfl) (by kernel_rfl) (fun _ n h => h.drewN n) (rfl) ?_
      intro r33 hr33
      refine calm_call (some 34) 157 #[.float .f32 r33] (numv_ne (by rw [← hr33]; exact size_ex r33)) (by kernel_rfl) (by kernel_rfl) (by kernel_rfl) (fun _ => by kernel_rfl) (fun w' hw' => (sizeOf_any r33 w').mono fun e w2 ⟨r, he, hr, hq⟩ => ⟨_, he, ⟨r, rfl, hr.trans (congrArg sizeO hr33)⟩, hw'.trans hq⟩) ?_
      rintro _ ⟨r34, rfl, hr34⟩
      refine calm_pure (some 35) (by kernel_rfl) (by kernel_rfl) (by kernel_rfl) (fun _ => by have hc := chg_is ht hr34; rw [← hc.1]; exact max_op (p := .tmp 25) (q := .tmp 34) (ts := #[23, 23]) _ (by kernel_rfl) (by kernel_rfl) (by kernel_rfl) M1.out hc.2.1 M2.out) ?_
      refine calm_end fun w' hw' => plan_do none undef (w'.setCell ⟨w.heap.size + 1 + 1, 0, none⟩ (.float .f32 (maxN mg (chgN b (H.h x.1))))) (by kernel_rfl) (by kernel_rfl) (by kernel_rfl) (.inr ⟨store_f32 (x := .tmp 5) (y := .tmp 35) (by kernel_rfl) (by kernel_rfl) (by kernel_rfl) infoF32 (u := .float .f32 mg) (kq y5 w' hw') (by obtain ⟨n, rfl⟩ := hw'; exact y6), rfl⟩) trivial (plan_end (Clean.normal ?_))
      have hc := chg_is ht hr34
      have hq2 := KeepsOthers.of_below' (hw'.below Y.heap.size)
      have hm := maxN_ok M1.out M2.out (hc.1 ▸ hc.2.1) (hc.1 ▸ hc.2.2)
      have z5 : (w'.setCell ⟨w.heap.size + 1 + 1, 0, none⟩ (.float .f32 (maxN mg (chgN b (H.h x.1))))).cell? ⟨w.heap.size + 1 + 1, 0, none⟩ = some (.float .f32 (maxN mg (chgN b (H.h x.1)))) := World.cell?_setCell_same' _ _ _ (by rw [kq y5 w' hw']; rfl)
      have z6 : (w'.setCell ⟨w.heap.size + 1 + 1, 0, none⟩ (.float .f32 (maxN mg (chgN b (H.h x.1))))).frozen? ⟨w.heap.size + 1 + 1, 0, none⟩ = false := by rw [World.frozen?_setCell]; obtain ⟨n, rfl⟩ := hw'; exact y6
      have z3 : (w'.setCell ⟨w.heap.size + 1 + 1, 0, none⟩ (.float .f32 (maxN mg (chgN b (H.h x.1))))).cell? ⟨w.heap.size, 0, none⟩ = _ := (cell_other (fun e => by injection e; omega)).trans (kq y3 w' hw')
      have z4 : (w'.setCell ⟨w.heap.size + 1 + 1, 0, none⟩ (.float .f32 (maxN mg (chgN b (H.h x.1))))).cell? ⟨w.heap.size + 1, 0, none⟩ = _ := (cell_other (fun e => by injection e; omega)).trans (kq Y4.out w' hw')
      have z0 := (Y0.out.below (hw'.below _) Y0.out.lt).far (b' := w.heap.size + 1 + 1) (k := 0) (v := .float .f32 (maxN mg (chgN b (H.h x.1)))) (by omega)
      have z7 : KeepsOthers W2 (w'.setCell ⟨w.heap.size + 1 + 1, 0, none⟩ (.float .f32 (maxN mg (chgN b (H.h x.1))))) := (Y7.out.trans hq2).trans (KeepsOthers.setCell _ _ _)
      have z8 : Below B W2 (w'.setCell ⟨w.heap.size + 1 + 1, 0, none⟩ (.float .f32 (maxN mg (chgN b (H.h x.1))))) := (Y8.out.trans (hw'.below _)).setCell (p := ⟨w.heap.size + 1 + 1, 0, none⟩) (by simp; omega) _
      have z9 : AwayC B w.heap.size w (w'.setCell ⟨w.heap.size + 1 + 1, 0, none⟩ (.float .f32 (maxN mg (chgN b (H.h x.1))))) := (Y9.out.trans (AwayC.of_below (hw'.below _))).trans (AwayC.put (.inr (by omega)))
      have hstep : swp nx G (nos (pre ++ [x])) = (putHd H x.1 b, true, maxN mg (chgN b (H.h x.1))) := by
        rw [HS.out]
        show (putHd H x.1 ((nx H x.1).getD 0), ok && plainO (nx H x.1), maxN mg (chgN ((nx H x.1).getD 0) (H.h x.1))) = _
        rw [HNX.out, A1.out]
        simp [plainO, HPB.out]
      refine ⟨z7, z8, ?_, HB2.out.trans z8⟩
      rw [hstep]
      exact ⟨⟨rfl, hm.1, hm.2⟩, z0, z3, z4, z5, z6, z9⟩
  case done =>
    rintro D W2 hD ⟨a1, a2, a3, a4, a5, a6, a7⟩ hB2 hK
    have R1 := Lib.hid a1.1
    have R2 := Lib.hid a2
    have R7 := Lib.hid a7
    have HB3 := Lib.hid (BU.out.trans hB2)
    have hwD : B ≤ D := by omega
    clear a1 a2 a3 a4 a6 a7 hB2 hD u0 u1 u2 u3 u4 cM TU
    refine WpAt.of_in (n := 6) (wpIn_wide.2 ?_)
    go_wp2
    exact ret_marks hK (fun W' _ => by simp [results, Tryz.results141, go_sem] <;> rfl) (fun W' hc hb => ⟨HB3.out.trans (hb _ hwD), R7.out.trans (AwayC.of_ck hc), .inl ⟨R1.out, rfl, hc.box R2.out⟩⟩)
  case panic =>
    rintro D ch W2 hD ⟨rfl, h1, h2, h3⟩ hK
    refine ⟨by simp, .inl ⟨_, _, rfl, run_takeDeferred hK, ?_⟩⟩
    exact ⟨below_putObj h3 (by omega) (Nat.le_of_lt hlB) hK, h2.trans (AwayC.of_ck (CK.put hK)), .inr ⟨h1, rfl⟩⟩
end Go.Proofs.YtaghnminpfgdcaaGreatDoor
