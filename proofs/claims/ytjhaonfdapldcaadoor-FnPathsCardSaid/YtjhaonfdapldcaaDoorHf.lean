/- The program's: are all flows from a cell finite? Without brines. No condition. -/
import Derived.Test.YtjhaonfdapldcaaDoorPth
import Derived.Test.YtjhaonfdapldcaaDoorHelp
namespace Go.Proofs.YtjhaonfdapldcaaDoor
open Go Go.RowKit Go.Shelf
attribute [local go_sem] Oper.semAt_some run_store_float
set_option linter.unusedSimpArgs false
set_option linter.unusedVariables false

theorem finO_of {r : Nat} {o : Option Nat} (h : num .f32 r = o) : finB r = finO o := by
  subst h
  exact (finO_num r).symm
theorem Quiet.frozen {w w1 : World} (h : Quiet w w1) {x : Addr} (hf : w.frozen? x = false) : w1.frozen? x = false := by obtain ⟨n, rfl⟩ := h; exact hf
/-- Are all flows from a cell to its neighbours finite? -/
def nbFin (G : Gd) (k : Nat) : Bool := (sidesL G k).all fun s => finO (flowO G k (nbN k (s : Int)))
theorem finO_zero : finO (num .f32 0) = true := by decide +kernel
theorem nbFin_eq (G : Gd) (k : Nat) : nbFin G k = (List.range 4).all fun s => finO (flowS G k (s : Int)) := by
  rw [Bool.eq_iff_iff]
  unfold nbFin
  rw [List.all_eq_true, List.all_eq_true]
  constructor
  · intro h s hs
    unfold flowS
    split
    · next hn => exact h s (mem_sidesL.2 ⟨by simpa using hs, hn⟩)
    · exact finO_zero
  · intro h s hs
    have := h s (by simpa using (mem_sidesL.1 hs).1)
    unfold flowS at this
    rwa [if_pos (mem_sidesL.1 hs).2] at this
theorem hf_boxes (A B C : Array Value) (t u v : TypeId) (w : World) : ∃ W, ((w.alloc (.cells A t)).alloc (.cells B u)).alloc (.cells C v) = W ∧ W.heap.size = w.heap.size + 1 + 1 + 1 ∧ W.rangeAt w.heap.size 0 A.toList ∧ W.rangeAt (w.heap.size + 1) 0 B.toList ∧ W.rangeAt (w.heap.size + 1 + 1) 0 C.toList ∧ W.there (w.heap.size + 1 + 1) 0 C.size ∧ Below w.heap.size w W := by
  obtain ⟨V, hV, z, r1, r2, b⟩ := two_boxes A B t u w
  rw [hV]
  have hb : Below V.heap.size V (V.alloc (.cells C v)) := (Below.refl _ _).alloc (Nat.le_refl _) _
  have hl := heap_alloc_last V (.cells C v)
  rw [z] at hl
  exact ⟨_, rfl, by simp [z], range_below r1 hb (by omega), range_below r2 hb (by omega), rangeAt_row hl, there_row hl rfl, b.trans (hb.mono (by omega))⟩

set_option maxRecDepth 100000 in
set_option maxHeartbeats 4000000 in
theorem implHasFin_any (G : Gd) (k : Nat) (hk : k < 64) (hv : validB G = true) (p : Nat) (w : World) (hp : GrdAt w p 0 G) (hpl : p < w.heap.size) (hG : GdOk G) :
    Calls Tryd.prog 69 #[.pointer (some ⟨p, 0, none⟩), .int .i64 k] w fun e w' => e = .returned (.bool (nbFin G k)) ∧ Below w.heap.size w w' := by
  obtain ⟨R, hR⟩ : ∃ r, nbFin G k = r := ⟨_, rfl⟩
  rw [hR]
  have HR0 := Lib.hid hR
  refine (callsIn_wide (n := 6)).1 (callsIn_of_wp_marks Tryd.func69 rfl trivial ?_ rfl)
  simp only [Tryd.ntmps69, List.size_toArray, List.length_cons, List.length_nil, Nat.reduceAdd, Nat.reduceSub, Array.replicate_succ, Array.replicate_zero, List.push_toArray, List.append_toArray, List.nil_append, List.cons_append]
  refine wpIn_wide.2 ?_
  go_upto_region 1 with (fail)
  obtain ⟨W, hW, hz, r1, r2, r3, t3, hB⟩ := hf_boxes #[.pointer (some ⟨p, 0, none⟩)] #[.int .i64 k] #[.bool false] 57 2 4 w
  rw [hW]
  clear hW
  have c2 := r1 0 _ rfl
  have c3 := r2 0 _ rfl
  have cS := r3 0 _ rfl
  have fS := (t3 0 (by simp)).2
  rw [Nat.zero_add] at c2 c3 cS fS
  have gp := hp.below hB hpl
  have HB := Lib.hid hB
  have GP := Lib.hid gp
  have HV := Lib.hid hv
  have HG := Lib.hid hG
  have hpW : p < W.heap.size := by omega
  clear hp hG r1 r2 r3 t3 hB gp hv hR
  have hk2 : (k : Int) < 64 := by omega
  go_wp2_with (go_at_call 31; refine (neighbours_any p k _).mono ?_; rintro e w' ⟨rfl, rfl⟩)
  obtain ⟨X, hX, zX, q1, q2, hbX⟩ := two_boxes #[.pointer (some ⟨p, 0, none⟩)] #[.int .i64 k] 57 2 W
  rw [hX]
  clear hX
  have b1 := q1 0 _ rfl
  have b2 := q2 0 _ rfl
  rw [Nat.zero_add, hz] at b1 b2
  have x2 := kc c2 (by omega) _ hbX
  have x3 := kc c3 (by omega) _ hbX
  have xS := kc cS (by omega) _ hbX
  have xF : X.frozen? ⟨w.heap.size + 1 + 1, 0, none⟩ = false := (hbX.frozen (p := ⟨w.heap.size + 1 + 1, 0, none⟩) (by simp; omega)).trans fS
  have GX := Lib.hid (GP.out.below hbX (by omega))
  have HBX := Lib.hid (HB.out.trans (hbX.mono (by omega)))
  clear c2 c3 cS fS GP HB q1 q2 hbX
  refine (wpIn_wide (n := 6)).1 (wp_nbs G k hk HV.out HG.out 8 9 5 (w.heap.size + 1 + 1 + 1) (w.heap.size + 1 + 1 + 1 + 1) (w.heap.size + 1 + 1) p (by omega) rfl b1 b2 GX.out (by omega)
    (fun pre W2 => W2.cell? ⟨w.heap.size + 1 + 1, 0, none⟩ = some (.bool false) ∧ W2.frozen? ⟨w.heap.size + 1 + 1, 0, none⟩ = false ∧ ∀ s ∈ pre, finO (flowO G k (nbN k (s : Int))) = true)
    (fun c pre W2 => c = .ret ∧ W2.cell? ⟨w.heap.size + 1 + 1, 0, none⟩ = some (.bool false) ∧ ∃ s ∈ pre, finO (flowO G k (nbN k (s : Int))) = false)
    (fun s A B h ⟨h1, h2, h3⟩ => ⟨h.cell h1, (h.frozen h1).trans h2, h3⟩) (fun c s A B h ⟨h1, h2, h3⟩ => ⟨h1, h.cell h2, h3⟩) ⟨xS, xF, fun s hs => by cases hs⟩ ?assign ?body ?done ?stop)
  case assign =>
    intro l x W K hK
    simp only [List.setIfInBounds_toArray, List.set_cons_zero, List.set_cons_succ] at hK ⊢
    gi_wp2
    exact hK
  case body =>
    rintro l pre x W2 ⟨h1, h2, h3⟩ hB2 _ _ hj
    simp only [List.setIfInBounds_toArray, List.set_cons_zero, List.set_cons_succ]
    generalize hjj : nbN k (x.1 : Int) = j at hj ⊢
    have c2 := kc x2 (by omega) _ hB2.below
    have c3 := kc x3 (by omega) _ hB2.below
    have gp := GX.out.below hB2.below (by omega)
    have H3 := Lib.hid h3
    have HB2 := Lib.hid hB2
    clear h3 hB2
    cases hf : finO (flowO G k j)
    · have Hf := Lib.hid hf
      clear hf
      gi_wp2_with (first | (refine ⟨trivial, ?_⟩; gi_at_call 49; refine (callsIn_wide.2 (implFlow_any G k j hk hj p _ gp)).mono ?_; rintro e w1 ⟨r, rfl, hr, hq⟩; have HR := Lib.hid ((finO_of hr).trans Hf.out); have HQ1 := Lib.hid hq; clear hr hq) | (refine ⟨trivial, ?_⟩; gi_at_call 78; refine (callsIn_wide.2 (isFinite_is r false HR.out _)).mono ?_; rintro e w2 ⟨rfl, hq2⟩; have HQ2 := Lib.hid (HQ1.out.trans hq2); have c5 := kq h1 w2 HQ2.out; have f5 := HQ2.out.frozen h2; clear hq2) | (refine ⟨trivial, ?_⟩))
      have k1 : KN (w.heap.size + 1 + 1) (w.heap.size + 1 + 1 + 1) (w.heap.size + 1 + 1 + 1 + 1) W2 (w2.setCell ⟨w.heap.size + 1 + 1, 0, none⟩ (.bool false)) := (KN.of_below (by have := HB2.out.below.size; omega) (HQ2.out.below _)).trans (KN.setCell (Nat.le_refl _) (by show w.heap.size + 1 + 1 ≠ _; omega) (by show w.heap.size + 1 + 1 ≠ _; omega))
      exact ⟨KeepsOthers.trans (B := w2) (KeepsOthers.of_below' (HQ2.out.below _)) (KeepsOthers.setCell _ _ _), ⟨rfl, World.cell?_setCell_same' _ _ _ (by rw [c5]; rfl), x.1, by rw [sds_snoc]; simp, by rw [hjj]; exact Hf.out⟩, HB2.out.trans k1⟩
    · have Hf := Lib.hid hf
      clear hf
      gi_wp2_with (first | (refine ⟨trivial, ?_⟩; gi_at_call 49; refine (callsIn_wide.2 (implFlow_any G k j hk hj p _ gp)).mono ?_; rintro e w1 ⟨r, rfl, hr, hq⟩; have HR := Lib.hid ((finO_of hr).trans Hf.out); have HQ1 := Lib.hid hq; clear hr hq) | (refine ⟨trivial, ?_⟩; gi_at_call 78; refine (callsIn_wide.2 (isFinite_is r true HR.out _)).mono ?_; rintro e w2 ⟨rfl, hq2⟩; have HQ2 := Lib.hid (HQ1.out.trans hq2); have c5 := kq h1 w2 HQ2.out; have f5 := HQ2.out.frozen h2; clear hq2) | (refine ⟨trivial, ?_⟩))
      have k1 : KN (w.heap.size + 1 + 1) (w.heap.size + 1 + 1 + 1) (w.heap.size + 1 + 1 + 1 + 1) W2 w2 := KN.of_below (by have := HB2.out.below.size; omega) (HQ2.out.below _)
      exact ⟨KeepsOthers.of_below' (HQ2.out.below _), k1, ⟨c5, f5, fun s hs => by rw [sds_snoc, List.mem_append, List.mem_singleton] at hs; rcases hs with h | rfl; exact H3.out s h; rw [hjj]; exact Hf.out⟩, HB2.out.trans k1⟩
  case done =>
    rintro D W2 hD ⟨h1, h2, h3⟩ hB2 hK
    have HR := Lib.hid (show R = true by rw [← HR0.out]; unfold nbFin; rw [List.all_eq_true]; exact h3)
    have HB3 := Lib.hid (HBX.out.trans (hB2.below.mono (by omega)))
    have hwD : w.heap.size ≤ D := by omega
    have hDn : D ≠ w.heap.size + 1 + 1 := by omega
    clear h3 x2 x3 xS xF b1 b2 hz zX hD
    go_wp2
    have c7 : (W2.setCell ⟨w.heap.size + 1 + 1, 0, none⟩ (.bool true)).cell? ⟨w.heap.size + 1 + 1, 0, none⟩ = some (.bool true) := World.cell?_setCell_same' _ _ _ (by rw [h1]; rfl)
    have hK7 : (W2.setCell ⟨w.heap.size + 1 + 1, 0, none⟩ (.bool true)).heap[D]? = some (.deferred (some [])) :=
      (heap_setCells_other [Value.bool true] hDn (o := 0) (W := W2)).trans hK
    exact ret_marks hK7 (fun W' hc => results_cell_bool rfl Tryd.underlying4 _ _ _ 0 true rfl (hc.cell c7)) (fun W' _ hb => ⟨by rw [HR.out], (HB3.out.setCell (p := ⟨w.heap.size + 1 + 1, 0, none⟩) (by simp; omega) _).trans (hb _ hwD)⟩)
  case stop =>
    rintro D c pre W2 hD hp ⟨rfl, h1, s, hs, hsf⟩ hB2 hK
    have HR := Lib.hid (show R = false by
      rw [← HR0.out]
      cases e : nbFin G k
      · rfl
      · unfold nbFin at e
        rw [List.all_eq_true] at e
        rw [e s (hp.subset hs)] at hsf
        cases hsf)
    have HB3 := Lib.hid (HBX.out.trans (hB2.below.mono (by omega)))
    have hwD : w.heap.size ≤ D := by omega
    clear hs hsf
    gi_wp2
    exact ret_marks hK (fun W' hc => results_cell_bool rfl Tryd.underlying4 _ _ _ 0 false rfl (hc.cell h1)) (fun W' _ hb => ⟨by rw [HR.out], HB3.out.trans (hb _ hwD)⟩)
theorem nbFin_ok (G : Gd) (k : Nat) : nbFin G k = okW G k := nbFin_eq G k
end Go.Proofs.YtjhaonfdapldcaaDoor
