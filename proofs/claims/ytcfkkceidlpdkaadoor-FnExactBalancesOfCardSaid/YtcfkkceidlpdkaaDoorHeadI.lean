/- The settled head of a cell: the program's. No condition. -/
import Derived.Test.YtcfkkceidlpdkaaDoorHeadS
namespace Go.Proofs.YtcfkkceidlpdkaaDoor
open Go.RowKit Go.Shelf
attribute [local go_sem] Oper.semAt_some run_store_float
set_option linter.unusedSimpArgs false
set_option linter.unusedVariables false

theorem wpListIn_float {F : Fence} {n : Nat} {P : Program} {ops : Array Oper} {rest : List Oper} {o : Oper} {a : Act} {w : World} {Q : Exit → Act → World → Prop} (hg : o.guard = none) (op : BinOp) (t t' : TypeId) (x y : Operand)
    (ho : o.op = .binOp op t x y t') (hop : arith op = true) (k : FloatKind) (u v : Nat) (hx : a.eval x = .float k u) (hy : a.eval y = .float k v)
    (h : ∀ r m, num k r = fop k op (num k u) (num k v) → wpListIn F n P ops Q rest (a.put o.dst (.float k r)) (w.drewN m)) : wpListIn F n P ops Q (o :: rest) a w :=
  wpListIn_plain hg fun K hK => by
    obtain ⟨r, m, hr, hrun⟩ := run_float_any P w op hop t k u v
    have hq : (eqGuard op t x y (.float k u) (.float k v)).run P w = .ok () w := by
      cases op <;> first | (simp [arith] at hop; done) | simp [eqGuard]
    unfold Oper.wpIn
    refine ⟨fun f hf => (by simp [Oper.about, ho] at hf), ?_⟩
    rw [Oper.semAt_plain F _ _ (by rw [ho]; intro c hc'; cases hc')]
    unfold execOp
    simp only [ho, hx, hy]
    simp only [Sem.run_bind, hq, hrun, Result.andThen]
    exact hK _ _ (h r m hr)

/-- Two numbers, each in a cell of its own that has just been made. -/
theorem two_nums (x y : Value) (t : TypeId) (W : World) : ∃ V, ((W.alloc (.cells #[x] t)).alloc (.cells #[y] t)).drew = V ∧ V.heap.size = W.heap.size + 1 + 1 ∧ V.cell? ⟨W.heap.size, 0, none⟩ = some x ∧ V.frozen? ⟨W.heap.size, 0, none⟩ = false ∧ V.cell? ⟨W.heap.size + 1, 0, none⟩ = some y ∧ V.frozen? ⟨W.heap.size + 1, 0, none⟩ = false ∧ Below W.heap.size W V := by
  have z1 : (W.alloc (.cells #[x] t)).heap.size = W.heap.size + 1 := World.size_alloc _ _
  have b1 : Below W.heap.size W (W.alloc (.cells #[x] t)) := (Below.refl _ _).alloc (Nat.le_refl _) _
  have b2 : Below (W.heap.size + 1) (W.alloc (.cells #[x] t)) (((W.alloc (.cells #[x] t)).alloc (.cells #[y] t)).drew) := ((Below.refl _ _).alloc (by omega) _).drew
  have c1 : (W.alloc (.cells #[x] t)).cell? ⟨W.heap.size, 0, none⟩ = some x := cell_of_row _ _ 0 _ _ _ (heap_alloc_last W _)
  have f1 : (W.alloc (.cells #[x] t)).frozen? ⟨W.heap.size, 0, none⟩ = false := by have := (there_row (n := 1) (heap_alloc_last W (.cells #[x] t)) rfl 0 (by omega)).2; rwa [Nat.zero_add] at this
  have c2 : ((W.alloc (.cells #[x] t)).alloc (.cells #[y] t)).cell? ⟨W.heap.size + 1, 0, none⟩ = some y := by rw [← z1]; exact cell_of_row _ _ 0 _ _ _ (heap_alloc_last _ _)
  have f2 : ((W.alloc (.cells #[x] t)).alloc (.cells #[y] t)).frozen? ⟨W.heap.size + 1, 0, none⟩ = false := by rw [← z1]; have := (there_row (n := 1) (heap_alloc_last (W.alloc (.cells #[x] t)) (.cells #[y] t)) rfl 0 (by omega)).2; rwa [Nat.zero_add] at this
  exact ⟨_, rfl, (World.size_alloc _ _).trans (by rw [z1]), (b2.cell (p := ⟨W.heap.size, 0, none⟩) (by simp)).trans c1, (b2.frozen (p := ⟨W.heap.size, 0, none⟩) (by simp)).trans f1, c2, f2, b1.trans (b2.mono (by omega))⟩

set_option maxRecDepth 100000 in
set_option maxHeartbeats 1000000 in
theorem implHead_fixed (G : Gd) (k : Nat) (hk : k < 64) (p : Nat) (w : World) (hp : GrdAt w p 0 G) (hpl : p < w.heap.size) (hG : GdOk G) (hf : G.x.toNat.testBit k = true) :
    Calls Tryd.prog 67 #[.pointer (some ⟨p, 0, none⟩), .int .i64 k] w (GivesB (headO G k) w) := by
  have R := Lib.hid (show headO G k = num .f32 (G.h k) by simp [headO, hf])
  go_enter Tryd.func67, Tryd.ntmps67
  go_upto_region 1 with (fail)
  obtain ⟨W, hW, hz, r1, r2, hB⟩ := two_boxes #[.pointer (some ⟨p, 0, none⟩)] #[.int .i64 k] 58 2 w
  rw [hW]
  clear hW
  have c2 := r1 0 _ rfl
  have c3 := r2 0 _ rfl
  rw [Nat.zero_add] at c2 c3
  have gp := hp.below hB hpl
  have hc := gp.h
  rw [Nat.zero_add] at hc
  have ck := Grd_fld hc k hk
  have HB := Lib.hid hB
  have GP := Lib.hid gp
  have HG := Lib.hid hG
  have HF := Lib.hid hf
  clear hp hG hc r1 r2 hB gp hf hz
  go_upto_region 2 with (go_at_call 94; refine (isFixed_is G k hk true HF.out p _ GP.out HG.out).mono ?_; rintro e w' ⟨rfl, rfl⟩)
  refine wp_region_calm (ops' := regOf Tryd.f67 2) [0, 1, 2, 3, 4, 5, 6] [] .fin (Quiet W) [(0, One (.pointer (some ⟨p, 0, none⟩))), (1, One (.int .i64 (k : Int))), (2, One (.pointer (some ⟨p, 0, none⟩))), (3, One (.pointer (some ⟨p, 130, none⟩))), (4, One (.pointer (some ⟨p, 130 + k, none⟩))), (5, One (.float .f32 (G.h k))), (6, One (.float .f32 (G.h k)))] (by kernel_rfl) (by kernel_rfl) (by kernel_rfl) (by kernel_rfl) (by kernel_rfl) (by kernel_rfl) (by kernel_rfl) (by kernel_rfl) rfl ((Quiet.refl _).drewN 1) ?_
  refine calm_read (some 12) (by kernel_rfl) (by kernel_rfl) (by kernel_rfl) (fun w' hw' => load_cell (ty := 58) (x := .tmp 2) (b := w.heap.size) (o := 0) (by kernel_rfl) (by kernel_rfl) Tryd.underlying58 rfl (kq c2 w' hw')) ?_
  refine calm_read (some 13) (by kernel_rfl) (by kernel_rfl) (by kernel_rfl) (fun w' hw' => load_cell (ty := 2) (x := .tmp 3) (b := (w.heap.size + 1)) (o := 0) (by kernel_rfl) (by kernel_rfl) Tryd.underlying2 rfl (kq c3 w' hw')) ?_
  refine calm_pure (some 14) (by kernel_rfl) (by kernel_rfl) (by kernel_rfl) (fun _ => by kernel_rfl) ?_
  refine calm_pure (some 15) (by kernel_rfl) (by kernel_rfl) (by kernel_rfl) (fun _ => by kernel_rfl) ?_
  refine calm_pure (some 16) (by kernel_rfl) (by kernel_rfl) (by kernel_rfl) (index_fld (x := .tmp 15) (y := .tmp 13) (o := 130) (by kernel_rfl) (by kernel_rfl) (by kernel_rfl) hk) ?_
  refine calm_read (some 17) (by kernel_rfl) (by kernel_rfl) (by kernel_rfl) (fun w' hw' => load_cell (ty := 23) (x := .tmp 16) (b := p) (o := 130 + k) (by kernel_rfl) (by kernel_rfl) Tryd.underlying23 rfl (kq ck w' hw')) ?_
  refine calm_pure (some 4) (by kernel_rfl) (by kernel_rfl) (by kernel_rfl) (fun _ => by kernel_rfl) ?_
  refine calm_end fun w' hw' => plan_end (Clean.normal ?_)
  simp only [Act.put, List.setIfInBounds_toArray, List.set_cons_zero, List.set_cons_succ]
  go_wp2
  go_ret
  exact ⟨G.h k, rfl, R.out.symm, HB.out.trans (hw'.below _)⟩

set_option maxRecDepth 100000 in
set_option maxHeartbeats 4000000 in
theorem implHead_free (G : Gd) (k : Nat) (hk : k < 64) (hv : validB G = true) (p : Nat) (w : World) (hp : GrdAt w p 0 G) (hpl : p < w.heap.size) (hG : GdOk G) (hf : G.x.toNat.testBit k = false) :
    Calls Tryd.prog 67 #[.pointer (some ⟨p, 0, none⟩), .int .i64 k] w (GivesB (headO G k) w) := by
  have R := Lib.hid (show headO G k = if zeroO (hdTo G k 4).2 = true then num .f32 (G.h k) else fop .f32 .quo (hdTo G k 4).1 (hdTo G k 4).2 by simp [headO, hf])
  refine (callsIn_wide (n := 6)).1 (callsIn_of_wp_marks Tryd.func67 rfl trivial ?_ rfl)
  simp only [Tryd.ntmps67, List.size_toArray, List.length_cons, List.length_nil, Nat.reduceAdd, Nat.reduceSub, Array.replicate_succ, Array.replicate_zero, List.push_toArray, List.append_toArray, List.nil_append, List.cons_append]
  refine wpIn_wide.2 ?_
  go_upto_region 1 with (fail)
  obtain ⟨W, hW, hz, r1, r2, hB⟩ := two_boxes #[.pointer (some ⟨p, 0, none⟩)] #[.int .i64 k] 58 2 w
  rw [hW]
  clear hW
  have c2 := r1 0 _ rfl
  have c3 := r2 0 _ rfl
  rw [Nat.zero_add] at c2 c3
  have gp := hp.below hB hpl
  have hc := gp.g
  rw [Nat.zero_add] at hc
  have c0 := Grd_fld hc k hk
  have HB := Lib.hid hB
  have GP := Lib.hid gp
  have HV := Lib.hid hv
  have HG := Lib.hid hG
  have HF := Lib.hid hf
  clear hp hG hc r1 r2 hB gp hv hf
  have hk2 : (k : Int) < 64 := by omega
  have hpW : p < W.heap.size := by omega
  have HZ := Lib.hid hz
  clear hz
  go_upto_region 3 with (go_at_call 94; refine (isFixed_is G k hk false HF.out p _ GP.out HG.out).mono ?_; rintro e w' ⟨rfl, rfl⟩)
  rename_i K0 hK0
  have key : ∀ (V : World) (bs bj : Nat), bs ≠ bj → W.heap.size ≤ bs → W.heap.size ≤ bj → bs < V.heap.size → bj < V.heap.size → V.cell? ⟨bs, 0, none⟩ = some (.float .f32 (G.g k)) → V.frozen? ⟨bs, 0, none⟩ = false → V.cell? ⟨bj, 0, none⟩ = some (.float .f32 0) → V.frozen? ⟨bj, 0, none⟩ = false → Below W.heap.size W V →
      K0 { tmps := #[.pointer (some ⟨p, 0, none⟩), .int .i64 k, .pointer (some ⟨w.heap.size, 0, none⟩), .pointer (some ⟨(w.heap.size + 1), 0, none⟩), .float .f32 0, .pointer (some ⟨bs, 0, none⟩), .pointer (some ⟨bj, 0, none⟩), undef, undef, .pointer (some ⟨p, 0, none⟩), .int .i64 k, .bool false, undef, undef, undef, undef, undef, undef, .pointer (some ⟨p, 0, none⟩), .int .i64 k, .pointer (some ⟨p, 0, none⟩), .pointer (some ⟨p, 66, none⟩), .pointer (some ⟨p, 66 + k, none⟩), .float .f32 (G.g k), undef, undef, undef, undef, undef, undef, undef, undef, undef, undef, undef, undef, undef, undef, undef, undef, undef, undef, undef, undef, undef, undef, undef, undef, undef, undef, undef, undef, undef, undef, undef, undef], defers := [] } V := by
    intro V bs bj hbb lbs lbj lsV ljV cS fS cJ fJ hbV
    refine hK0 _ _ ?_
    clear hK0
    have hzl : w.heap.size + 1 < W.heap.size := by have := HZ.out; omega
    have v2 := kc c2 (by omega) _ hbV
    have v3 := kc c3 hzl _ hbV
    have GV := Lib.hid (GP.out.below hbV (by omega))
    clear c0 c2 c3 GP
    go_wp2_with (go_at_call 72; refine (neighbours_any p k _).mono ?_; rintro e w' ⟨rfl, rfl⟩)
    obtain ⟨X, hX, zX, q1, q2, hbX⟩ := two_boxes #[.pointer (some ⟨p, 0, none⟩)] #[.int .i64 k] 58 2 V
    rw [hX]
    clear hX
    have b1 := q1 0 _ rfl
    have b2 := q2 0 _ rfl
    rw [Nat.zero_add] at b1 b2
    have x2 := kc v2 (by have := hbV.size; omega) _ hbX
    have x3 := kc v3 (by have := hbV.size; omega) _ hbX
    have xS := kc cS lsV _ hbX
    have xJ := kc cJ ljV _ hbX
    have xF : X.frozen? ⟨bs, 0, none⟩ = false := (hbX.frozen (p := ⟨bs, 0, none⟩) lsV).trans fS
    have xG : X.frozen? ⟨bj, 0, none⟩ = false := (hbX.frozen (p := ⟨bj, 0, none⟩) ljV).trans fJ
    have GX := Lib.hid (GV.out.below hbX (by have := hbV.size; omega))
    have hWV := hbV.size
    have HBX := Lib.hid ((HB.out.trans (hbV.mono (by omega))).trans (hbX.mono (by omega)))
    clear v2 v3 cS fS cJ fJ GV HB q1 q2 hbV hbX
    refine (wpIn_wide (n := 6)).1 (wp_nbs G k hk HV.out HG.out 26 27 7 V.heap.size (V.heap.size + 1) W.heap.size p hpW rfl b1 b2 GX.out (by omega)
      (fun pre W2 => ∃ b d, W2.cell? ⟨bs, 0, none⟩ = some (.float .f32 b) ∧ W2.frozen? ⟨bs, 0, none⟩ = false ∧ W2.cell? ⟨bj, 0, none⟩ = some (.float .f32 d) ∧ W2.frozen? ⟨bj, 0, none⟩ = false ∧ num .f32 b = (hdL G k pre).1 ∧ num .f32 d = (hdL G k pre).2)
      (fun _ _ _ => False)
      (fun s A B h ⟨b, d, h1, h2, h5, h6, h3, h4⟩ => ⟨b, d, h.cell h1, (h.frozen h1).trans h2, h.cell h5, (h.frozen h5).trans h6, h3, h4⟩) (fun _ _ _ _ _ h => h) ⟨G.g k, 0, xS, xF, xJ, xG, rfl, rfl⟩ ?assign ?body ?done ?stop)
    case assign =>
      intro l x W K hK
      simp only [List.setIfInBounds_toArray, List.set_cons_zero, List.set_cons_succ] at hK ⊢
      gi_wp2
      exact hK
    case body =>
      rintro l pre x W2 ⟨b, d, h1, h2, h5, h6, h3, h4⟩ hB2 _ _ hj
      simp only [List.setIfInBounds_toArray, List.set_cons_zero, List.set_cons_succ]
      generalize hjj : nbN k (x.1 : Int) = j at hj ⊢
      have c2 := kc x2 (by omega) _ hB2.below
      have c3 := kc x3 hzl _ hB2.below
      have gp := Lib.hid (GX.out.below hB2.below hpW)
      have HB2 := Lib.hid hB2
      have H3 := Lib.hid h3
      have H4 := Lib.hid h4
      have HJJ := Lib.hid hjj
      have hh := gp.out.h
      rw [Nat.zero_add] at hh
      have cj2 := Grd_fld hh j hj
      clear hB2 h3 h4 hjj hh
      gi_wp2_with (first | (refine ⟨trivial, ?_⟩; gi_at_call 73; refine CallsIn.inRound l ((callsIn_wide (n := 3)).2 ((implJoint_any G k j hk hj p _ gp.out).mono ?_)); rintro e W6 ⟨q, rfl, hq, hQ⟩; have HQ := Lib.hid hq; have HQ6 := Lib.hid hQ; clear hq hQ))
      have h1q := kq h1 W6 HQ6.out
      have c2q := kq c2 W6 HQ6.out
      have cj := kq cj2 W6 HQ6.out
      refine wpIn_region_calm (ops' := regOf Tryd.f67 7) [0, 1, 2, 3, 4, 5, 6, 7, 8, 9] [10] (.run 10 .fin) (Quiet W6) [(0, One (.float .f32 b)), (1, Numv .f32 (jointG G k j)), (2, One (.pointer (some ⟨p, 0, none⟩))), (3, One (.int .i64 (j : Int))), (4, One (.pointer (some ⟨p, 0, none⟩))), (5, One (.pointer (some ⟨p, 130, none⟩))), (6, One (.pointer (some ⟨p, 130 + j, none⟩))), (7, One (.float .f32 (G.h j))), (8, Numv .f32 (fop .f32 .mul (jointG G k j) (num .f32 (G.h j)))), (9, Numv .f32 (fop .f32 .add ((hdL G k (sds pre)).1) (fop .f32 .mul (jointG G k j) (num .f32 (G.h j)))))] (by kernel_rfl) (by kernel_rfl) (by kernel_rfl) (by kernel_rfl) (by kernel_rfl) (by kernel_rfl) (by kernel_rfl) (by kernel_rfl) (by kernel_rfl) rfl ((Quiet.refl _).drewN 1) ?_
      refine calm_read (some 32) (by kernel_rfl) (by kernel_rfl) (by kernel_rfl) (fun w' hw' => load_cell (ty := 23) (x := .tmp 5) (b := bs) (o := 0) (by kernel_rfl) (by kernel_rfl) Tryd.underlying23 rfl (kq h1q w' hw')) ?_
      refine calm_pureV (some 33) (.float .f32 q) ⟨_, rfl, HQ.out⟩ (by kernel_rfl) (by kernel_rfl) (by kernel_rfl) (fun _ => by kernel_rfl) ?_
      rintro _ ⟨r33, rfl, hr33⟩
      refine calm_read (some 34) (by kernel_rfl) (by kernel_rfl) (by kernel_rfl) (fun w' hw' => load_cell (ty := 58) (x := .tmp 2) (b := w.heap.size) (o := 0) (by kernel_rfl) (by kernel_rfl) Tryd.underlying58 rfl (kq c2q w' hw')) ?_
      refine calm_pure (some 35) (by kernel_rfl) (by kernel_rfl) (by kernel_rfl) (fun _ => by kernel_rfl) ?_
      refine calm_pure (some 36) (by kernel_rfl) (by kernel_rfl) (by kernel_rfl) (fun _ => by kernel_rfl) ?_
      refine calm_pure (some 37) (by kernel_rfl) (by kernel_rfl) (by kernel_rfl) (fun _ => by kernel_rfl) ?_
      refine calm_pure (some 38) (by kernel_rfl) (by kernel_rfl) (by kernel_rfl) (index_fld (x := .tmp 37) (y := .tmp 35) (o := 130) (by kernel_rfl) (by kernel_rfl) (by kernel_rfl) hj) ?_
      refine calm_read (some 39) (by kernel_rfl) (by kernel_rfl) (by kernel_rfl) (fun w' hw' => load_cell (ty := 23) (x := .tmp 38) (b := p) (o := 130 + j) (by kernel_rfl) (by kernel_rfl) Tryd.underlying23 rfl (kq cj w' hw')) ?_
      refine calm_float (some 40) .f32 .mul 23 23 (.tmp 33) (.tmp 39) (r33) ((G.h j)) (by kernel_rfl) (by kernel_rfl) (by kernel_rfl) (by kernel_rfl) rfl (by kernel_rfl) (by kernel_rfl) (fun _ n h => h.drewN n) (fop_eq hr33 (rfl)) ?_
      intro r40 hr40
      refine calm_float (some 41) .f32 .add 23 23 (.tmp 32) (.tmp 40) (b) (r40) (by kernel_rfl) (by kernel_rfl) (by kernel_rfl) (by kernel_rfl) rfl (by kernel_rfl) (by kernel_rfl) (fun _ n h => h.drewN n) (fop_eq H3.out hr40) ?_
      intro r41 hr41
      refine calm_end fun w' hw' => plan_do none undef (w'.setCell ⟨bs, 0, none⟩ (.float .f32 r41)) (by kernel_rfl) (by kernel_rfl) (by kernel_rfl) (.inr ⟨store_f32 (x := .tmp 5) (y := .tmp 41) (by kernel_rfl) (by kernel_rfl) (by kernel_rfl) infoF32 (kq h1q w' hw') (by obtain ⟨n, rfl⟩ := HQ6.out.trans hw'; exact h2), rfl⟩) trivial (plan_end (Clean.normal ?_))
      have hQY := HQ6.out.trans hw'
      obtain ⟨Y, hY⟩ : ∃ Y, w'.setCell ⟨bs, 0, none⟩ (.float .f32 r41) = Y := ⟨_, rfl⟩
      have y1 : Y.cell? ⟨bs, 0, none⟩ = some (.float .f32 r41) := by rw [← hY]; exact World.cell?_setCell_same' _ _ _ (by rw [kq h1 w' hQY]; rfl)
      have y2 : Y.frozen? ⟨bs, 0, none⟩ = false := by rw [← hY, World.frozen?_setCell]; obtain ⟨n, rfl⟩ := hQY; exact h2
      have y5 : Y.cell? ⟨bj, 0, none⟩ = some (.float .f32 d) := by rw [← hY]; exact (cell_other (fun e => hbb (by injection e))).trans (kq h5 w' hQY)
      have y6 : Y.frozen? ⟨bj, 0, none⟩ = false := by rw [← hY, World.frozen?_setCell]; obtain ⟨n, rfl⟩ := hQY; exact h6
      have kY : KeepsOthers W2 Y := by rw [← hY]; exact KeepsOthers.trans (B := w') (KeepsOthers.of_below' (hQY.below _)) (KeepsOthers.setCell _ _ _)
      have nY : KN W.heap.size V.heap.size (V.heap.size + 1) W2 Y := by rw [← hY]; exact (KN.of_below (by have := HB2.out.below.size; omega) (hQY.below _)).trans (KN.setCell lbs (by show bs ≠ _; omega) (by show bs ≠ _; omega))
      rw [hY]
      have R41 := Lib.hid hr41
      have KY := Lib.hid kY
      have NY := Lib.hid nY
      have Y1 := Lib.hid y1
      have Y2 := Lib.hid y2
      clear hY h1q c2q cj hQY kY nY y1 y2 hr41 hr33 hr40 h1 h2 h5 h6 c2 c3
      simp only [Act.put, List.setIfInBounds_toArray, List.set_cons_zero, List.set_cons_succ]
      gi_wp2_with (refine wpListIn_float rfl _ _ _ _ _ rfl rfl .f32 _ _ rfl rfl ?_; intro r3 n3 hr3; have R3 := Lib.hid hr3; clear hr3)
      have q3 : Quiet Y (Y.drewN n3) := ⟨n3, rfl⟩
      have k1 : KeepsOthers W2 ((Y.drewN n3).setCell ⟨bj, 0, none⟩ (.float .f32 r3)) := KY.out.trans (KeepsOthers.trans (B := Y.drewN n3) (KeepsOthers.of_below' (q3.below _)) (KeepsOthers.setCell _ _ _))
      have k2 : KN W.heap.size V.heap.size (V.heap.size + 1) W2 ((Y.drewN n3).setCell ⟨bj, 0, none⟩ (.float .f32 r3)) := NY.out.trans ((KN.of_below (by have := HB2.out.below.size; have := NY.out.below.size; omega) (q3.below _)).trans (KN.setCell lbj (by show bj ≠ _; omega) (by show bj ≠ _; omega)))
      refine ⟨k1, k2, ⟨r41, r3, (cell_other (fun e => hbb (by injection e; rename_i e _ _; exact e.symm))).trans Y1.out, ?_, World.cell?_setCell_same' _ _ _ (by rw [show (Y.drewN n3).cell? ⟨bj, 0, none⟩ = _ from y5]; rfl), ?_, ?_, ?_⟩, HB2.out.trans k2⟩
      · rw [World.frozen?_setCell]; exact Y2.out
      · rw [World.frozen?_setCell]; exact y6
      · rw [sds_snoc, hdL_snoc, HJJ.out]; exact R41.out
      · rw [sds_snoc, hdL_snoc, HJJ.out]; exact R3.out.trans (by rw [H4.out, HQ.out])
    case done =>
      rintro D W2 hD ⟨b, d, h1, h2, h5, h6, h3, h4⟩ hB2 hK
      have e1 := h3.trans (congrArg Prod.fst (hdL_sides G k 4))
      have e2 := h4.trans (congrArg Prod.snd (hdL_sides G k 4))
      have zz := zeroO_num e2
      have HB3 := Lib.hid (HBX.out.trans (hB2.below.mono (by omega)))
      have hwD : w.heap.size ≤ D := by omega
      have gp := GX.out.below hB2.below hpW
      have hh := gp.h
      rw [Nat.zero_add] at hh
      have ck := Grd_fld hh k hk
      have c2 := kc x2 (by omega) _ hB2.below
      have c3 := kc x3 hzl _ hB2.below
      unfold zeroB at zz
      cases hz : (FloatKind.f32.format.order d 0 == some Ordering.eq)
      · have Z := Lib.hid (R.out.trans (show _ = fop .f32 .quo (hdTo G k 4).1 (hdTo G k 4).2 by rw [← zz, hz]; rfl))
        have E1 := Lib.hid e1
        have E2 := Lib.hid e2
        clear h2 h6 h3 h4 x2 x3 xS xF xJ xG b1 b2 zz e1 e2 hh gp ck c2 c3 hD
        go_wp2_with (refine wpList_float rfl _ _ _ _ _ rfl rfl .f32 _ _ rfl rfl ?_; intro r1 n1 hr; have R1 := Lib.hid hr; clear hr)
        exact ret_marks (W := W2.drewN n1) hK (fun W' _ => by simp [results, Tryd.results67, go_sem] <;> rfl) (fun W' _ hb => ⟨r1, rfl, by rw [Z.out, R1.out, E1.out, E2.out], (HB3.out.trans (Quiet.below ⟨n1, rfl⟩ _)).trans (hb _ hwD)⟩)
      · have Z := Lib.hid (R.out.trans (show _ = num .f32 (G.h k) by rw [← zz, hz]; rfl))
        clear h2 h6 h3 h4 x2 x3 xS xF xJ xG b1 b2 zz e1 e2 hh gp hD
        go_upto_region 10 with (fail)
        refine wp_region_calm (ops' := regOf Tryd.f67 10) [0, 1, 2, 3, 4, 5, 6] [] .fin (Quiet W2) [(0, One (.pointer (some ⟨p, 0, none⟩))), (1, One (.int .i64 (k : Int))), (2, One (.pointer (some ⟨p, 0, none⟩))), (3, One (.pointer (some ⟨p, 130, none⟩))), (4, One (.pointer (some ⟨p, 130 + k, none⟩))), (5, One (.float .f32 (G.h k))), (6, One (.float .f32 (G.h k)))] (by kernel_rfl) (by kernel_rfl) (by kernel_rfl) (by kernel_rfl) (by kernel_rfl) (by kernel_rfl) (by kernel_rfl) (by kernel_rfl) rfl ((Quiet.refl _).drewN 1) ?_
        refine calm_read (some 47) (by kernel_rfl) (by kernel_rfl) (by kernel_rfl) (fun w' hw' => load_cell (ty := 58) (x := .tmp 2) (b := w.heap.size) (o := 0) (by kernel_rfl) (by kernel_rfl) Tryd.underlying58 rfl (kq c2 w' hw')) ?_
        refine calm_read (some 48) (by kernel_rfl) (by kernel_rfl) (by kernel_rfl) (fun w' hw' => load_cell (ty := 2) (x := .tmp 3) (b := (w.heap.size + 1)) (o := 0) (by kernel_rfl) (by kernel_rfl) Tryd.underlying2 rfl (kq c3 w' hw')) ?_
        refine calm_pure (some 49) (by kernel_rfl) (by kernel_rfl) (by kernel_rfl) (fun _ => by kernel_rfl) ?_
        refine calm_pure (some 50) (by kernel_rfl) (by kernel_rfl) (by kernel_rfl) (fun _ => by kernel_rfl) ?_
        refine calm_pure (some 51) (by kernel_rfl) (by kernel_rfl) (by kernel_rfl) (index_fld (x := .tmp 50) (y := .tmp 48) (o := 130) (by kernel_rfl) (by kernel_rfl) (by kernel_rfl) hk) ?_
        refine calm_read (some 52) (by kernel_rfl) (by kernel_rfl) (by kernel_rfl) (fun w' hw' => load_cell (ty := 23) (x := .tmp 51) (b := p) (o := 130 + k) (by kernel_rfl) (by kernel_rfl) Tryd.underlying23 rfl (kq ck w' hw')) ?_
        refine calm_pure (some 4) (by kernel_rfl) (by kernel_rfl) (by kernel_rfl) (fun _ => by kernel_rfl) ?_
        refine calm_end fun w' hw' => plan_end (Clean.normal ?_)
        simp only [Act.put, List.setIfInBounds_toArray, List.set_cons_zero, List.set_cons_succ]
        go_wp2
        exact ret_marks (by obtain ⟨n, rfl⟩ := hw'; exact hK) (fun W' _ => by simp [results, Tryd.results67, go_sem] <;> rfl) (fun W' _ hb => ⟨G.h k, rfl, Z.out.symm, (HB3.out.trans (hw'.below _)).trans (hb _ hwD)⟩)
    case stop =>
      rintro D c pre W _ _ h _ _
      exact h.elim
  have hz := HZ.out
  clear R HV HG HF HB
  have hpa : ∀ x, (W.alloc x).cell? ⟨p, 66 + k, none⟩ = some (.float .f32 (G.g k)) := fun x => (((Below.refl W.heap.size W).alloc (Nat.le_refl _) x).cell (p := ⟨p, 66 + k, none⟩) hpW).trans c0
  have hpb : ∀ x y, ((W.alloc x).alloc y).cell? ⟨p, 66 + k, none⟩ = some (.float .f32 (G.g k)) := fun x y => (((Below.refl _ (W.alloc x)).alloc (Nat.le_refl _) y).cell (p := ⟨p, 66 + k, none⟩) (by rw [World.size_alloc]; show p < _; omega)).trans (hpa x)
  go_region
  · obtain ⟨V, hV, zV, a1, a2, a3, a4, bV⟩ := two_nums (.float .f32 (G.g k)) (.float .f32 0) 23 W
    rw [hz] at zV a1 a2 a3 a4
    rw [hV]
    exact key V (w.heap.size + 1 + 1) (w.heap.size + 1 + 1 + 1) (by omega) (by omega) (by omega) (by omega) (by omega) a1 a2 a3 a4 bV
  · obtain ⟨V, hV, zV, a1, a2, a3, a4, bV⟩ := two_nums (.float .f32 0) (.float .f32 (G.g k)) 23 W
    rw [hz] at zV a1 a2 a3 a4
    rw [hV]
    exact key V (w.heap.size + 1 + 1 + 1) (w.heap.size + 1 + 1) (by omega) (by omega) (by omega) (by omega) (by omega) a3 a4 a1 a2 bV

theorem implHead_any (G : Gd) (k : Nat) (hk : k < 64) (hv : validB G = true) (p : Nat) (w : World) (hp : GrdAt w p 0 G) (hpl : p < w.heap.size) (hG : GdOk G) :
    Calls Tryd.prog 67 #[.pointer (some ⟨p, 0, none⟩), .int .i64 k] w (GivesB (headO G k) w) := by
  cases hf : G.x.toNat.testBit k
  · exact implHead_free G k hk hv p w hp hpl hG hf
  · exact implHead_fixed G k hk p w hp hpl hG hf
end Go.Proofs.YtcfkkceidlpdkaaDoor
