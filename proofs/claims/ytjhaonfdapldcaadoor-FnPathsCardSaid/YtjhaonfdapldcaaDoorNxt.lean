/- Where water goes next, the program's. No condition. -/
import Derived.Test.YtjhaonfdapldcaaDoorHf
namespace Go.Proofs.YtjhaonfdapldcaaDoor
open Go Go.RowKit Go.Shelf
attribute [local go_sem] Oper.semAt_some run_store_float
set_option linter.unusedSimpArgs false
set_option linter.unusedVariables false

/-- Of some sides of a cell, the one to which most flows. -/
def bsL (G : Gd) (c : Nat) (l : List Nat) : Option Nat × Option Nat := l.foldl (fun o (s : Nat) => if gtO (flowO G c (nbN c (s : Int))) o.2 = true then (some s, flowO G c (nbN c (s : Int))) else o) (none, some 0)
theorem bsL_snoc (G : Gd) (c : Nat) (l : List Nat) (s : Nat) : bsL G c (l ++ [s]) = if gtO (flowO G c (nbN c (s : Int))) (bsL G c l).2 = true then (some s, flowO G c (nbN c (s : Int))) else bsL G c l := by
  unfold bsL
  rw [List.foldl_append]
  rfl
theorem gt_zero (G : Gd) (c n : Nat) : gtO (some 0) (bsTo G c n).2 = false := by
  rcases bsTo_is G c n with e | ⟨s, r, _, e, _, h⟩
  · rw [e]; decide
  · rw [e]
    unfold gtO
    rw [ordO_swap]
    have : ordO (some r) (some 0) = some Ordering.gt := h
    rw [this]; rfl
theorem bsL_sides (G : Gd) (c : Nat) : ∀ n, bsL G c (sidesTo G c n) = bsTo G c n
  | 0 => rfl
  | n + 1 => by
    have ih := bsL_sides G c n
    cases hb : nbB G c (n : Int)
    · rw [sidesTo_no hb, ih]
      have hf : flowS G c (n : Int) = some 0 := by unfold flowS; rw [hb, if_neg (by decide)]; decide
      exact (bsTo_no (by rw [hf]; exact gt_zero G c n)).symm
    · rw [sidesTo_yes hb, bsL_snoc, ih]
      have hf : flowS G c (n : Int) = flowO G c (nbN c (n : Int)) := by unfold flowS; rw [hb, if_pos rfl]
      rw [← hf]
      rfl
/-- The cell of a side, or the cell itself. -/
def nxI (k : Nat) (o : Option Nat) : Nat := match o with | none => k | some s => nbN k (s : Int)
theorem first_other {w : World} {x y : Addr} {v : Value} (h : x ≠ y) : (w.setCell x v).cell? y = w.cell? y := by
  first | exact cell_other h | exact cell_other h.symm | exact cell_other (fun e => h e) | exact cell_other (fun e => h e.symm)
theorem nx_boxes (A B C D : Array Value) (t u v x : TypeId) (w : World) : ∃ W, (((w.alloc (.cells A t)).alloc (.cells B u)).alloc (.cells C v)).alloc (.cells D x) = W ∧ W.heap.size = w.heap.size + 1 + 1 + 1 + 1 ∧ W.rangeAt w.heap.size 0 A.toList ∧ W.rangeAt (w.heap.size + 1) 0 B.toList ∧ (W.rangeAt (w.heap.size + 1 + 1) 0 C.toList ∧ W.there (w.heap.size + 1 + 1) 0 C.size) ∧ (W.rangeAt (w.heap.size + 1 + 1 + 1) 0 D.toList ∧ W.there (w.heap.size + 1 + 1 + 1) 0 D.size) ∧ Below w.heap.size w W := by
  obtain ⟨V, hV, z, r1, r2, r3, t3, b⟩ := hf_boxes A B C t u v w
  rw [hV]
  have hb : Below V.heap.size V (V.alloc (.cells D x)) := (Below.refl _ _).alloc (Nat.le_refl _) _
  have hl := heap_alloc_last V (.cells D x)
  rw [z] at hl
  exact ⟨_, rfl, by simp [z], range_below r1 hb (by omega), range_below r2 hb (by omega), ⟨range_below r3 hb (by omega), there_below t3 hb (by omega)⟩, ⟨rangeAt_row hl, there_row hl rfl⟩, b.trans (hb.mono (by omega))⟩
set_option maxRecDepth 100000 in
set_option maxHeartbeats 4000000 in
theorem nextOnWay_any (G : Gd) (k : Nat) (hk : k < 64) (hv : validB G = true) (p : Nat) (w : World) (hp : GrdAt w p 0 G) (hpl : p < w.heap.size) (hG : GdOk G) :
    Calls Tryd.prog 86 #[.pointer (some ⟨p, 0, none⟩), .int .i64 k] w fun e w' => e = .returned (.tuple #[.int .i64 ((nxI k (bsTo G k 4).1 : Nat) : Int), .bool (nxtW G k).isSome]) ∧ Below w.heap.size w w' := by
  refine (callsIn_wide (n := 6)).1 (callsIn_of_wp_marks Tryd.func86 rfl trivial ?_ rfl)
  simp only [Tryd.ntmps86, List.size_toArray, List.length_cons, List.length_nil, Nat.reduceAdd, Nat.reduceSub, Array.replicate_succ, Array.replicate_zero, List.push_toArray, List.append_toArray, List.nil_append, List.cons_append]
  refine wpIn_wide.2 ?_
  go_upto_region 2 with (fail)
  obtain ⟨W, hW, hz, r1, r2, ⟨r3, t3⟩, ⟨r4, t4⟩, hB⟩ := nx_boxes #[.pointer (some ⟨p, 0, none⟩)] #[.int .i64 k] #[.int .i64 k] #[.float .f32 0] 57 2 2 23 w
  rw [hW]
  clear hW
  have c2 := r1 0 _ rfl
  have c3 := r2 0 _ rfl
  have cS := r3 0 _ rfl
  have fS := (t3 0 (by simp)).2
  have cM := r4 0 _ rfl
  have fM := (t4 0 (by simp)).2
  rw [Nat.zero_add] at c2 c3 cS fS cM fM
  have gp := hp.below hB hpl
  have HB := Lib.hid hB
  have GP := Lib.hid gp
  have HV := Lib.hid hv
  have HG := Lib.hid hG
  have hpW : p < W.heap.size := by omega
  clear hp hG r1 r2 r3 t3 r4 t4 hB gp hv
  have hk2 : (k : Int) < 64 := by omega
  go_wp2_with (go_at_call 31; refine (neighbours_any p k _).mono ?_; rintro e w' ⟨rfl, rfl⟩)
  obtain ⟨X, hX, zX, q1, q2, hbX⟩ := two_boxes #[.pointer (some ⟨p, 0, none⟩)] #[.int .i64 k] 57 2 W
  rw [hX]
  clear hX
  have b1 := q1 0 _ rfl
  have b2 := q2 0 _ rfl
  rw [Nat.zero_add, hz] at b1 b2
  have x2 := kc c2 (by omega) _ hbX
  have x3 := kc c3 (by omega) _ hbX
  have xS := kc cS (by omega) _ hbX
  have xF : X.frozen? ⟨w.heap.size + 1 + 1, 0, none⟩ = false := (hbX.frozen (p := ⟨w.heap.size + 1 + 1, 0, none⟩) (by simp; omega)).trans fS
  have xM := kc cM (by omega) _ hbX
  have xG : X.frozen? ⟨w.heap.size + 1 + 1 + 1, 0, none⟩ = false := (hbX.frozen (p := ⟨w.heap.size + 1 + 1 + 1, 0, none⟩) (by simp; omega)).trans fM
  have GX := Lib.hid (GP.out.below hbX (by omega))
  have HBX := Lib.hid (HB.out.trans (hbX.mono (by omega)))
  clear c2 c3 cS fS cM fM GP HB q1 q2 hbX
  refine (wpIn_wide (n := 6)).1 (wp_nbs G k hk HV.out HG.out 13 14 8 (w.heap.size + 1 + 1 + 1 + 1) (w.heap.size + 1 + 1 + 1 + 1 + 1) (w.heap.size + 1 + 1) p (by omega) rfl b1 b2 GX.out (by omega)
    (fun pre W2 => ∃ b : Nat, W2.cell? ⟨w.heap.size + 1 + 1, 0, none⟩ = some (.int .i64 ((nxI k (bsL G k pre).1 : Nat) : Int)) ∧ W2.frozen? ⟨w.heap.size + 1 + 1, 0, none⟩ = false ∧ W2.cell? ⟨w.heap.size + 1 + 1 + 1, 0, none⟩ = some (.float .f32 b) ∧ W2.frozen? ⟨w.heap.size + 1 + 1 + 1, 0, none⟩ = false ∧ num .f32 b = (bsL G k pre).2)
    (fun _ _ _ => False)
    (fun s A B h ⟨b, h1, h2, h3, h4, h5⟩ => ⟨b, h.cell h1, (h.frozen h1).trans h2, h.cell h3, (h.frozen h3).trans h4, h5⟩) (fun _ _ _ _ _ h => h) ⟨0, xS, xF, xM, xG, (by decide : num .f32 0 = some 0)⟩ ?assign ?body ?done ?stop)
  case assign =>
    intro l x W K hK
    simp only [List.setIfInBounds_toArray, List.set_cons_zero, List.set_cons_succ] at hK ⊢
    gi_wp2
    exact hK
  case body =>
    rintro l pre x W2 ⟨b, h1, h2, h3, h4, h5⟩ hB2 _ _ hj
    simp only [List.setIfInBounds_toArray, List.set_cons_zero, List.set_cons_succ]
    generalize hjj : nbN k (x.1 : Int) = j at hj ⊢
    have c2 := kc x2 (by omega) _ hB2.below
    have c3 := kc x3 (by omega) _ hB2.below
    have gp := GX.out.below hB2.below (by omega)
    have HB2 := Lib.hid hB2
    have HJJ := Lib.hid hjj
    obtain ⟨nn, hnn⟩ : ∃ nn, nxI k (bsL G k (sds pre)).1 = nn := ⟨_, rfl⟩
    rw [hnn] at h1
    have HNN := Lib.hid hnn
    clear hB2 hjj hnn
    cases hg : gtO (flowO G k j) (bsL G k (sds pre)).2
    · have Hg := Lib.hid hg
      clear hg
      gi_wp2_with (first | (refine ⟨trivial, ?_⟩; gi_at_call 49; refine (callsIn_wide.2 (implFlow_any G k j hk hj p _ gp)).mono ?_; rintro e w1 ⟨r, rfl, hr, hq⟩; have hcmp : (FloatKind.f32.format.order r b == some Ordering.gt) = false := (gtO_num hr h5).symm.trans Hg.out; have c6 := kq h1 w1 hq; have f6 := hq.frozen h2; have c7 := kq h3 w1 hq; have f7 := hq.frozen h4; have HR := Lib.hid hr; have HQ1 := Lib.hid hq; clear hr hq) | (refine ⟨trivial, ?_⟩))
      have hsn : bsL G k (sds (pre ++ [x])) = bsL G k (sds pre) := by rw [sds_snoc, bsL_snoc, HJJ.out, if_neg (by rw [Hg.out]; decide)]
      have k1 : KN (w.heap.size + 1 + 1) (w.heap.size + 1 + 1 + 1 + 1) (w.heap.size + 1 + 1 + 1 + 1 + 1) W2 w1 := KN.of_below (by have := HB2.out.below.size; omega) (HQ1.out.below _)
      exact ⟨KeepsOthers.of_below' (HQ1.out.below _), k1, ⟨b, by rw [hsn, HNN.out]; exact c6, f6, c7, f7, by rw [hsn]; exact h5⟩, HB2.out.trans k1⟩
    · have Hg := Lib.hid hg
      clear hg
      gi_wp2_with (first | (refine ⟨trivial, ?_⟩; gi_at_call 49; refine (callsIn_wide.2 (implFlow_any G k j hk hj p _ gp)).mono ?_; rintro e w1 ⟨r, rfl, hr, hq⟩; have hcmp : (FloatKind.f32.format.order r b == some Ordering.gt) = true := (gtO_num hr h5).symm.trans Hg.out; have c6 := kq h1 w1 hq; have f6 := hq.frozen h2; have c7 := kq h3 w1 hq; have f7 := hq.frozen h4; have HR := Lib.hid hr; have HQ1 := Lib.hid hq; clear hr hq) | (refine ⟨trivial, ?_⟩))
      have hsn : bsL G k (sds (pre ++ [x])) = (some x.1, flowO G k j) := by rw [sds_snoc, bsL_snoc, HJJ.out, if_pos Hg.out]
      have kA : KN (w.heap.size + 1 + 1) (w.heap.size + 1 + 1 + 1 + 1) (w.heap.size + 1 + 1 + 1 + 1 + 1) W2 w1 := KN.of_below (by have := HB2.out.below.size; omega) (HQ1.out.below _)
      have kB : KN (w.heap.size + 1 + 1) (w.heap.size + 1 + 1 + 1 + 1) (w.heap.size + 1 + 1 + 1 + 1 + 1) w1 (w1.setCell ⟨w.heap.size + 1 + 1, 0, none⟩ (.int .i64 (j : Int))) := KN.setCell (Nat.le_refl _) (by show w.heap.size + 1 + 1 ≠ _; omega) (by show w.heap.size + 1 + 1 ≠ _; omega)
      have kC : KN (w.heap.size + 1 + 1) (w.heap.size + 1 + 1 + 1 + 1) (w.heap.size + 1 + 1 + 1 + 1 + 1) (w1.setCell ⟨w.heap.size + 1 + 1, 0, none⟩ (.int .i64 (j : Int))) ((w1.setCell ⟨w.heap.size + 1 + 1, 0, none⟩ (.int .i64 (j : Int))).setCell ⟨w.heap.size + 1 + 1 + 1, 0, none⟩ (.float .f32 r)) := KN.setCell (by show w.heap.size + 1 + 1 ≤ w.heap.size + 1 + 1 + 1; omega) (by show w.heap.size + 1 + 1 + 1 ≠ _; omega) (by show w.heap.size + 1 + 1 + 1 ≠ _; omega)
      have k1 := (kA.trans kB).trans kC
      have ne1 : (⟨w.heap.size + 1 + 1 + 1, 0, none⟩ : Addr) ≠ ⟨w.heap.size + 1 + 1, 0, none⟩ := fun e => by have := congrArg Addr.block e; simp at this
      have e6 : ((w1.setCell ⟨w.heap.size + 1 + 1, 0, none⟩ (.int .i64 (j : Int))).setCell ⟨w.heap.size + 1 + 1 + 1, 0, none⟩ (.float .f32 r)).cell? ⟨w.heap.size + 1 + 1, 0, none⟩ = some (.int .i64 (j : Int)) := by
        refine Eq.trans (first_other ne1) ?_
        exact World.cell?_setCell_same' _ _ _ (by rw [c6]; rfl)
      have e7 : ((w1.setCell ⟨w.heap.size + 1 + 1, 0, none⟩ (.int .i64 (j : Int))).setCell ⟨w.heap.size + 1 + 1 + 1, 0, none⟩ (.float .f32 r)).cell? ⟨w.heap.size + 1 + 1 + 1, 0, none⟩ = some (.float .f32 r) :=
        World.cell?_setCell_same' _ _ _ (by rw [first_other ne1.symm, c7]; rfl)
      have g6 : ((w1.setCell ⟨w.heap.size + 1 + 1, 0, none⟩ (.int .i64 (j : Int))).setCell ⟨w.heap.size + 1 + 1 + 1, 0, none⟩ (.float .f32 r)).frozen? ⟨w.heap.size + 1 + 1, 0, none⟩ = false := by rw [World.frozen?_setCell, World.frozen?_setCell]; exact f6
      have g7 : ((w1.setCell ⟨w.heap.size + 1 + 1, 0, none⟩ (.int .i64 (j : Int))).setCell ⟨w.heap.size + 1 + 1 + 1, 0, none⟩ (.float .f32 r)).frozen? ⟨w.heap.size + 1 + 1 + 1, 0, none⟩ = false := by rw [World.frozen?_setCell, World.frozen?_setCell]; exact f7
      have kO := (KeepsOthers.trans (B := w1) (KeepsOthers.of_below' (HQ1.out.below _)) (KeepsOthers.setCell w1 ⟨w.heap.size + 1 + 1, 0, none⟩ (.int .i64 (j : Int)))).trans (KeepsOthers.setCell _ ⟨w.heap.size + 1 + 1 + 1, 0, none⟩ (.float .f32 r))
      exact ⟨kO, k1, ⟨r, by rw [hsn]; simp only [nxI, HJJ.out]; exact e6, g6, e7, g7, by rw [hsn]; exact HR.out⟩, HB2.out.trans k1⟩
  case done =>
    rintro D W2 hD ⟨b, h1, h2, h3, h4, h5⟩ hB2 hK
    rw [show sidesL G k = sidesTo G k 4 from rfl, bsL_sides] at h1 h5
    obtain ⟨nn, hnn⟩ : ∃ nn, nxI k (bsTo G k 4).1 = nn := ⟨_, rfl⟩
    rw [hnn] at h1
    have HNN := Lib.hid hnn
    have HB3 := Lib.hid (HBX.out.trans (hB2.below.mono (by omega)))
    have hwD : w.heap.size ≤ D := by omega
    have hcmp : (FloatKind.f32.format.order b 0 == some Ordering.gt) = (nxtW G k).isSome := by
      have e : (FloatKind.f32.format.order b 0 == some Ordering.gt) = gtO (bsTo G k 4).2 (some 0) := (gtO_num h5 (by decide : num .f32 0 = some 0)).symm
      rw [e]
      unfold nxtW
      rcases bsTo_is G k 4 with e2 | ⟨s, r, _, e2, _, h⟩
      · rw [e2]
        have h0 : gtO (some 0) (some 0) = false := by decide
        show gtO (some 0) (some 0) = _
        rw [h0]; rfl
      · rw [e2]
        unfold gtO
        have : ordO (some r) (some 0) = some Ordering.gt := h
        rw [this]; rfl
    obtain ⟨sb, hsb⟩ : ∃ sb, (nxtW G k).isSome = sb := ⟨_, rfl⟩
    rw [hsb] at hcmp
    have HSB := Lib.hid hsb
    clear h2 h4 h5 x2 x3 xS xF xM xG b1 b2 hz zX hD hnn hsb
    go_wp2
    go_region
    go_wp2
    have hK2 : W2.drew.heap[D]? = some (.deferred (some [])) := hK
    exact ret_marks hK2 (fun W' _ => by simp [results, Tryd.results86, go_sem] <;> rfl) (fun W' _ hb => ⟨by rw [HNN.out, HSB.out], HB3.out.drew.trans (hb _ hwD)⟩)
  case stop =>
    rintro D c pre W _ _ h _ _
    exact h.elim
end Go.Proofs.YtjhaonfdapldcaaDoor
