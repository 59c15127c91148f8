/- What goes out of a cell and what salt comes in: the program's. Conditions: none. -/
import Derived.Test.YtikefaollfaejaaDoorBrO
namespace Go.Proofs.YtikefaollfaejaaDoor
open Go.RowKit Go.Shelf
attribute [local go_sem] Oper.semAt_some run_store_float
set_option linter.unusedSimpArgs false
set_option linter.unusedVariables false

theorem Quiet.heap {w w1 : World} (h : Quiet w w1) {D : Nat} : w1.heap[D]? = w.heap[D]? := by obtain ⟨n, rfl⟩ := h; rfl

set_option maxRecDepth 100000 in
set_option maxHeartbeats 4000000 in
theorem implOut_any (B : Brn) (k : Nat) (hk : k < 64) (hv : validB B.G = true) (p : Nat) (w : World) (hB : BrnAt w p 0 B) (hpl : p < w.heap.size) (hG : BrnOk B) :
    Calls Tryd.prog 18 #[.agg #[.pointer (some ⟨p, 0, none⟩), .pointer (some ⟨p, 0, none⟩)], .int .i64 k] w (GivesB (outO B.G k) w) := by
  refine (callsIn_wide (n := 6)).1 (callsIn_of_wp_marks Tryd.func18 rfl trivial ?_ rfl)
  simp only [Tryd.ntmps18, List.size_toArray, List.length_cons, List.length_nil, Nat.reduceAdd, Nat.reduceSub, Array.replicate_succ, Array.replicate_zero, List.push_toArray, List.append_toArray, List.nil_append, List.cons_append]
  refine wpIn_wide.2 ?_
  go_upto_region 2 with (fail)
  obtain ⟨W, hW, hz, r1, r2, r3, t3, hb⟩ := hf_boxes #[.pointer (some ⟨p, 0, none⟩), .pointer (some ⟨p, 0, none⟩)] #[.int .i64 k] #[.float .f32 0] 51 2 23 w
  rw [hW]
  clear hW
  have c1 := r1 0 _ rfl
  have c2 := r1 1 _ rfl
  have c3 := r2 0 _ rfl
  have cS := r3 0 _ rfl
  have fS := (t3 0 (by simp)).2
  rw [Nat.zero_add] at c1 c2 c3 cS fS
  have HB := Lib.hid hb
  have HP := Lib.hid (hB.below hb hpl)
  have HV := Lib.hid hv
  have HG := Lib.hid hG
  clear hB hG r1 r2 r3 t3 hb hv
  have hk2 : (k : Int) < 64 := by omega
  go_wp2_with (go_at_call 33; refine (neighbours_any p k _).mono ?_; rintro e w' ⟨rfl, rfl⟩)
  obtain ⟨X, hX, zX, q1, q2, hbX⟩ := two_boxes #[.pointer (some ⟨p, 0, none⟩)] #[.int .i64 k] 49 2 W
  rw [hX]
  clear hX
  have b1 := q1 0 _ rfl
  have b2 := q2 0 _ rfl
  rw [Nat.zero_add, hz] at b1 b2
  have x1 := kc c1 (by omega) _ hbX
  have x2 := kc c2 (by omega) _ hbX
  have x3 := kc c3 (by omega) _ hbX
  have xS := kc cS (by omega) _ hbX
  have xF : X.frozen? ⟨w.heap.size + 1 + 1, 0, none⟩ = false := (hbX.frozen (p := ⟨w.heap.size + 1 + 1, 0, none⟩) (by simp; omega)).trans fS
  have PX := Lib.hid (HP.out.below hbX (by omega))
  have HBX := Lib.hid (HB.out.trans (hbX.mono (by omega)))
  clear c1 c2 c3 cS fS HP HB q1 q2 hbX
  refine (wpIn_wide (n := 6)).1 (wp_nbs B.G k hk HV.out HG.out.g 12 13 6 (w.heap.size + 1 + 1 + 1) (w.heap.size + 1 + 1 + 1 + 1) (w.heap.size + 1 + 1) p (by omega) rfl b1 b2 PX.out.g (by omega)
    (fun pre W2 => ∃ b, W2.cell? ⟨w.heap.size + 1 + 1, 0, none⟩ = some (.float .f32 b) ∧ W2.frozen? ⟨w.heap.size + 1 + 1, 0, none⟩ = false ∧ num .f32 b = outL B.G k pre)
    (fun _ _ _ => False)
    (fun s A B h ⟨b, h1, h2, h3⟩ => ⟨b, h.cell h1, (h.frozen h1).trans h2, h3⟩) (fun _ _ _ _ _ h => h) ⟨0, xS, xF, rfl⟩ ?assign ?body ?done ?stop)
  case assign =>
    intro l x W K hK
    simp only [List.setIfInBounds_toArray, List.set_cons_zero, List.set_cons_succ] at hK ⊢
    gi_wp2
    exact hK
  case body =>
    rintro l pre x W2 ⟨b, h1, h2, h3⟩ hB2 _ hnb hj
    simp only [List.setIfInBounds_toArray, List.set_cons_zero, List.set_cons_succ]
    have fe : flowS B.G k (x.1 : Int) = flowO B.G k (nbN k (x.1 : Int)) := flowS_yes hnb
    have E := Lib.hid (show outL B.G k (sds (pre ++ [x])) = outStep B.G k (outL B.G k (sds pre)) x.1 by rw [sds_snoc, outL_snoc])
    have E2 := Lib.hid (show outStep B.G k (outL B.G k (sds pre)) x.1 = if posO (flowO B.G k (nbN k (x.1 : Int))) = true then fop .f32 .add (outL B.G k (sds pre)) (flowO B.G k (nbN k (x.1 : Int))) else outL B.G k (sds pre) by unfold outStep; rw [fe])
    clear fe
    generalize nbN k (x.1 : Int) = j at hj E2 ⊢
    have hj2 : (j : Int) < 64 := by omega
    have y1 := kc x1 (by omega) _ hB2.below
    have y2 := kc x2 (by omega) _ hB2.below
    have y3 := kc x3 (by omega) _ hB2.below
    have PB := Lib.hid (PX.out.below hB2.below (by omega))
    have gp := PB.out.g
    have H3 := Lib.hid h3
    have HB2 := Lib.hid hB2
    clear h3 hB2 x1 x2 x3 hnb
    refine wpIn_block ?_
    cases hf : posO (flowO B.G k j)
    · have Hf := Lib.hid hf
      rw [hf] at E2
      clear hf
      gi_wp2_with (first | (refine ⟨trivial, ?_⟩; gi_at_call 34; refine (callsIn_wide.2 (implFlow_any B.G k j hk hj p _ gp)).mono ?_; rintro e w1 ⟨r, rfl, hr, hq⟩; have hs := (posO_of hr).trans Hf.out; have HR := Lib.hid hr; have HQ1 := Lib.hid hq; have c5 := kq h1 w1 hq; have f5 := hq.frozen h2; clear hr hq) | (refine ⟨trivial, ?_⟩))
      have k1 : KN (w.heap.size + 1 + 1) (w.heap.size + 1 + 1 + 1) (w.heap.size + 1 + 1 + 1 + 1) W2 w1 := KN.of_below (by have := HB2.out.below.size; omega) (HQ1.out.below _)
      exact ⟨KeepsOthers.of_below' (HQ1.out.below _), k1, ⟨b, c5, f5, by rw [E.out, E2.out]; exact H3.out⟩, HB2.out.trans k1⟩
    · have Hf := Lib.hid hf
      rw [hf] at E2
      clear hf
      gi_wp2_with (first | (refine ⟨trivial, ?_⟩; gi_at_call 34; refine (callsIn_wide.2 (implFlow_any B.G k j hk hj p _ gp)).mono ?_; rintro e w1 ⟨r, rfl, hr, hq⟩; have hs := (posO_of hr).trans Hf.out; have HR := Lib.hid hr; have HQ1 := Lib.hid hq; have c5 := kq h1 w1 hq; have f5 := hq.frozen h2; clear hr hq) | (refine ⟨trivial, ?_⟩; refine wpListIn_float rfl _ _ _ _ _ rfl rfl .f32 _ _ rfl rfl ?_; intro r3 F3n F3h; have F3 := Lib.hid F3h; clear F3h) | (refine wpListIn_float rfl _ _ _ _ _ rfl rfl .f32 _ _ rfl rfl ?_; intro r3 F3n F3h; have F3 := Lib.hid F3h; clear F3h) | (refine ⟨trivial, ?_⟩))
      have Qw : Quiet W2 (w1.drewN F3n) := HQ1.out.drewN _
      have k1 : KN (w.heap.size + 1 + 1) (w.heap.size + 1 + 1 + 1) (w.heap.size + 1 + 1 + 1 + 1) W2 ((w1.drewN F3n).setCell ⟨w.heap.size + 1 + 1, 0, none⟩ (.float .f32 r3)) := (KN.of_below (by have := HB2.out.below.size; omega) (Qw.below _)).trans (KN.setCell (Nat.le_refl _) (by show w.heap.size + 1 + 1 ≠ _; omega) (by show w.heap.size + 1 + 1 ≠ _; omega))
      refine ⟨KeepsOthers.trans (B := w1.drewN F3n) (KeepsOthers.of_below' (Qw.below _)) (KeepsOthers.setCell _ _ _), k1, ⟨r3, World.cell?_setCell_same' _ _ _ (by rw [(Qw.cell _).trans h1]; rfl), ?_, ?_⟩, HB2.out.trans k1⟩
      · rw [World.frozen?_setCell]; exact Qw.frozen h2
      · rw [E.out, E2.out]; exact F3.out.trans (fop_eq H3.out HR.out)
  case done =>
    rintro D W2 hD ⟨b, h1, h2, h3⟩ hB2 hK
    have H3 := Lib.hid (h3.trans (outL_sides B.G k))
    have HB3 := Lib.hid (HBX.out.trans (hB2.below.mono (by omega)))
    have hwD : w.heap.size ≤ D := by omega
    have hDn : D ≠ w.heap.size + 1 + 1 := by omega
    have y1 := kc x1 (by omega) _ hB2.below
    have y2 := kc x2 (by omega) _ hB2.below
    have y3 := kc x3 (by omega) _ hB2.below
    have PB := Lib.hid (PX.out.below hB2.below (by omega))
    have hc := PB.out.g.g
    rw [Nat.zero_add] at hc
    have hpp := PB.out.p0
    clear h3 x1 x2 x3 xS xF b1 b2 hz zX hD hB2
    go_upto_region 7 with (fail)
    refine wp_region_calm (ops' := regOf Tryd.f18 7) [0, 1, 2, 3, 4, 5, 6, 7] [] .fin (Quiet W2) [(0, One (.pointer (some ⟨w.heap.size, 0, none⟩))), (1, One (.pointer (some ⟨p, 0, none⟩))), (2, One (.int .i64 (k : Int))), (3, One (.pointer (some ⟨p, 0, none⟩))), (4, One (.pointer (some ⟨p, 66, none⟩))), (5, One (.pointer (some ⟨p, 66 + k, none⟩))), (6, One (.float .f32 (B.G.g k))), (7, One (.float .f32 (B.G.g k)))] (by kernel_rfl) (by kernel_rfl) (by kernel_rfl) (by kernel_rfl) (by kernel_rfl) (by kernel_rfl) (by kernel_rfl) (by kernel_rfl) rfl ((Quiet.refl _).drewN 1) ?_
    refine calm_pure (some 24) (by kernel_rfl) (by kernel_rfl) (by kernel_rfl) (fun _ => by kernel_rfl) ?_
    refine calm_read (some 25) (by kernel_rfl) (by kernel_rfl) (by kernel_rfl) (fun w' hw' => load_cell (ty := 49) (x := .tmp 24) (b := w.heap.size) (o := 0) (by kernel_rfl) (by kernel_rfl) Tryd.underlying49 rfl (kq y1 w' hw')) ?_
    refine calm_read (some 26) (by kernel_rfl) (by kernel_rfl) (by kernel_rfl) (fun w' hw' => load_cell (ty := 2) (x := .tmp 3) (b := (w.heap.size + 1)) (o := 0) (by kernel_rfl) (by kernel_rfl) Tryd.underlying2 rfl (kq y3 w' hw')) ?_
    refine calm_pure (some 27) (by kernel_rfl) (by kernel_rfl) (by kernel_rfl) (fun _ => by kernel_rfl) ?_
    refine calm_pure (some 28) (by kernel_rfl) (by kernel_rfl) (by kernel_rfl) (fun _ => by kernel_rfl) ?_
    refine calm_pure (some 29) (by kernel_rfl) (by kernel_rfl) (by kernel_rfl) (index_fld (x := .tmp 28) (y := .tmp 26) (o := 66) (by kernel_rfl) (by kernel_rfl) (by kernel_rfl) hk) ?_
    refine calm_read (some 30) (by kernel_rfl) (by kernel_rfl) (by kernel_rfl) (fun w' hw' => load_cell (ty := 23) (x := .tmp 29) (b := p) (o := 66 + k) (by kernel_rfl) (by kernel_rfl) Tryd.underlying23 rfl (kq (Grd_fld hc k hk) w' hw')) ?_
    refine calm_pure (some 8) (by kernel_rfl) (by kernel_rfl) (by kernel_rfl) (fun _ => by kernel_rfl) ?_
    refine calm_end fun w' hw' => plan_end (Clean.normal ?_)
    have QW := Lib.hid hw'
    have c5 := kq h1 w' hw'
    have f5 := hw'.frozen h2
    have z3 := kq y3 w' hw'
    have z2 := kq y2 w' hw'
    have hK7 : w'.heap[D]? = some (.deferred (some [])) := (Quiet.heap hw').trans hK
    clear hw' y1 y2 y3 hc
    simp only [Act.put, List.setIfInBounds_toArray, List.set_cons_zero, List.set_cons_succ]
    cases hn : negB (B.G.g k)
    · have E := Lib.hid (show outO B.G k = outL B.G k (List.range 4) by unfold outO; rw [hn]; rfl)
      unfold negB at hn
      go_wp2
      have hK8 := hK7
      exact ret_marks hK8 (fun W' _ => by simp [results, Tryd.results18, go_sem] <;> rfl) (fun W' _ hb => ⟨b, rfl, by rw [E.out]; exact H3.out, (HB3.out.trans (QW.out.below _)).trans (hb _ hwD)⟩)
    · have E := Lib.hid (show outO B.G k = fop .f32 .add (outL B.G k (List.range 4)) (fop .f32 .sub (num .f32 0) (num .f32 (B.G.g k))) by unfold outO; rw [hn]; rfl)
      unfold negB at hn
      have tk : True := trivial
      go_wp2_with (first | (have _t := tk; refine wpList_float rfl _ _ _ _ _ rfl rfl .f32 _ _ rfl rfl ?_; intro r1 F1n F1h; have F1 := Lib.hid F1h; clear tk F1h) | (refine wpList_float rfl _ _ _ _ _ rfl rfl .f32 _ _ rfl rfl ?_; intro r2 F2n F2h; have F2 := Lib.hid F2h; clear  F2h))
      have hK8 : ((w'.drewN (F1n + F2n)).setCell ⟨w.heap.size + 1 + 1, 0, none⟩ (.float .f32 r2)).heap[D]? = some (.deferred (some [])) := (heap_setCells_other [Value.float .f32 r2] hDn (o := 0) (W := w'.drewN (F1n + F2n))).trans hK7
      exact ret_marks hK8 (fun W' _ => by simp [results, Tryd.results18, go_sem] <;> rfl) (fun W' _ hb => ⟨r2, rfl, by rw [E.out]; exact F2.out.trans (fop_eq H3.out F1.out), ((HB3.out.trans ((QW.out.drewN _).below _)).setCell (p := ⟨w.heap.size + 1 + 1, 0, none⟩) (by simp; omega) _).trans (hb _ hwD)⟩)
  case stop =>
    rintro D c pre W _ _ h _ _
    exact h.elim

end Go.Proofs.YtikefaollfaejaaDoor
