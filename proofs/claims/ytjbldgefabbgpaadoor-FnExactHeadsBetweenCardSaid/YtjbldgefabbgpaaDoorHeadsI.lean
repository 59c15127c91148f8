/- HeadsBetween: the program's. Condition: the table of math/bits is laid. -/
import Derived.Test.YtjbldgefabbgpaaDoorHeadsL
import Derived.Test.YtjbldgefabbgpaaDoorNums
import Derived.RegionTactic
import Derived.ChangeAlike
namespace Go.Proofs.YtjbldgefabbgpaaDoor
open Go.RowKit Go.Shelf
attribute [local go_sem] Oper.semAt_some run_store_float
set_option linter.unusedSimpArgs false

set_option maxRecDepth 100000 in
set_option maxHeartbeats 4000000 in
theorem implHeads_valid (G : Gd) (w : World) (hG : GdOk G) (hT : TabAt w) (hv : validB G = true) :
    Calls Tryd.prog 24 #[.agg (Grd G)] w fun e w' => e = .returned (FFI (rgTo G 63).1 (rgTo G 63).2 0) ∧ Below w.heap.size w w' := by
  refine (callsIn_wide (n := 6)).1 (callsIn_of_wp_marks Tryd.func24 rfl trivial ?_ rfl)
  simp only [Tryd.ntmps24, List.size_toArray, List.length_cons, List.length_nil, Nat.reduceAdd, Nat.reduceSub, Array.replicate_succ, Array.replicate_zero, List.push_toArray, List.append_toArray, List.nil_append, List.cons_append]
  refine wpIn_wide.2 ?_
  go_upto_region 1 with (fail)
  obtain ⟨W, hW, hs, g1, hB, hT1⟩ := box_in G 32 w hT
  rw [hW]
  clear hW
  have r1 := g1.range
  have G1 := Lib.hid g1
  have HB := Lib.hid hB
  have HG := Lib.hid hG
  have HT := Lib.hid hT1
  have Hv := Lib.hid hv
  have hn1 : w.heap.size < W.heap.size := by omega
  clear g1 hB hG hT hT1 hv hs
  go_upto_region 3 with (first | (refine wpList_load_mid rfl 32 _ rfl w.heap.size 0 rfl (GrdL G) _ r1 Tryd.underlying32 rfl (by rw [GrdL_length]; exact infoGround) ?_) | (go_at_call 49; have hc := (validGround_any G W HG.out HT.out (tab_lt HT.out)); rw [Hv.out] at hc; refine hc.mono ?_; clear hc; rintro e V ⟨rfl, hb1⟩))
  have z1 := hb1.size
  have P1 := Lib.hid (G1.out.below hb1 hn1)
  have B1 := Lib.hid (HB.out.trans (hb1.mono (by omega)))
  have T1 := Lib.hid (HT.out.below hb1 (tab_lt HT.out))
  have c0 := Grd_fld P1.out.at'.h 0 (by omega)
  rw [Nat.zero_add, Nat.add_zero] at c0
  clear r1 hb1 G1 HB HT
  have ca : ∀ o, (V.alloc o).cell? ⟨w.heap.size, 130, none⟩ = some (.float .f32 (G.h 0)) := fun o => by rw [World.cell?_alloc_some _ _ _ (by rw [c0]; rfl)]; exact c0
  have cb : ∀ o o', ((V.alloc o).alloc o').cell? ⟨w.heap.size, 130, none⟩ = some (.float .f32 (G.h 0)) := fun o o' => by rw [World.cell?_alloc_some _ _ _ (by rw [ca]; rfl)]; exact ca o
  have hx : w.heap.size ≠ V.heap.size := by omega
  go_region
  all_goals
    rename_i Q' K hK
    refine hK _ _ ?_
    clear hK K
  ·
    obtain ⟨U, hU⟩ : ∃ U, World.drew ((V.alloc (.cells #[.float .f32 (G.h 0)] 23)).alloc (.cells #[.float .f32 (G.h 0)] 23)) = U := ⟨_, rfl⟩
    rw [hU]
    have q1 : Quiet ((V.alloc (.cells #[.float .f32 (G.h 0)] 23)).alloc (.cells #[.float .f32 (G.h 0)] 23)) U := by rw [← hU]; exact ⟨1, rfl⟩
    have bA : Below V.heap.size V (V.alloc (.cells #[.float .f32 (G.h 0)] 23)) := (Below.refl _ _).alloc (Nat.le_refl _) _
    have zA : (V.alloc (.cells #[.float .f32 (G.h 0)] 23)).heap.size = V.heap.size + 1 := by simp
    have bA2 : Below (V.alloc (.cells #[.float .f32 (G.h 0)] 23)).heap.size (V.alloc (.cells #[.float .f32 (G.h 0)] 23)) U := ((Below.refl _ _).alloc (Nat.le_refl _) _).trans (Quiet.below q1 _)
    have x1 : (V.alloc (.cells #[.float .f32 (G.h 0)] 23)).cell? ⟨V.heap.size, 0, none⟩ = some (.float .f32 (G.h 0)) := cell_of_row _ _ 0 _ _ _ (heap_alloc_last V _)
    have x2 : (V.alloc (.cells #[.float .f32 (G.h 0)] 23)).frozen? ⟨V.heap.size, 0, none⟩ = false := by have := (there_row (n := 1) (heap_alloc_last V (.cells #[.float .f32 (G.h 0)] 23)) rfl 0 (by omega)).2; rwa [Nat.zero_add] at this
    have c1 : U.cell? ⟨V.heap.size, 0, none⟩ = some (.float .f32 (G.h 0)) := (bA2.cell (p := ⟨V.heap.size, 0, none⟩) (by simp)).trans x1
    have f1 : U.frozen? ⟨V.heap.size, 0, none⟩ = false := (bA2.frozen (p := ⟨V.heap.size, 0, none⟩) (by simp)).trans x2
    have y1 : ((V.alloc (.cells #[.float .f32 (G.h 0)] 23)).alloc (.cells #[.float .f32 (G.h 0)] 23)).cell? ⟨(V.alloc (.cells #[.float .f32 (G.h 0)] 23)).heap.size, 0, none⟩ = some (.float .f32 (G.h 0)) := cell_of_row _ _ 0 _ _ _ (heap_alloc_last (V.alloc (.cells #[.float .f32 (G.h 0)] 23)) _)
    have y2 : ((V.alloc (.cells #[.float .f32 (G.h 0)] 23)).alloc (.cells #[.float .f32 (G.h 0)] 23)).frozen? ⟨(V.alloc (.cells #[.float .f32 (G.h 0)] 23)).heap.size, 0, none⟩ = false := by have := (there_row (n := 1) (heap_alloc_last (V.alloc (.cells #[.float .f32 (G.h 0)] 23)) (.cells #[.float .f32 (G.h 0)] 23)) rfl 0 (by omega)).2; rwa [Nat.zero_add] at this
    rw [zA] at y1 y2
    have c2 : U.cell? ⟨V.heap.size + 1, 0, none⟩ = some (.float .f32 (G.h 0)) := (q1.cell _).trans y1
    have f2 : U.frozen? ⟨V.heap.size + 1, 0, none⟩ = false := by obtain ⟨n, rfl⟩ := q1; exact y2
    have bU : Below V.heap.size V U := bA.trans (bA2.mono (by omega))
    have zU : V.heap.size + 1 < U.heap.size := World.block_lt_of_cell? U ⟨V.heap.size + 1, 0, none⟩ c2
    have PU := Lib.hid (P1.out.below bU (by omega))
    have BU := Lib.hid (B1.out.trans (bU.mono (by omega)))
    have TU := Lib.hid (T1.out.below bU (tab_lt T1.out))
    have glt : 0 < V.heap.size := tab_lt T1.out
    clear hU q1 bA bA2 zA x1 x2 y1 y2 bU ca cb c0 P1 B1 T1
    go_wp2_with (first | (go_at_call 57; refine (cells_valid G Hv.out _ _ PU.out.at').mono ?_; rintro e w' ⟨rfl, rfl⟩) | (go_at_call 59; refine (bitsIn_any (cellsN G) _).mono ?_; rintro e w' ⟨rfl, rfl⟩))
    obtain ⟨X, hX⟩ : ∃ X, U.alloc (.cells #[.int .u64 (cellsN G)] 25) = X := ⟨_, rfl⟩
    have hbX : Below U.heap.size U X := by rw [← hX]; exact (Below.refl _ _).alloc (Nat.le_refl _) _
    have cM : X.cell? ⟨U.heap.size, 0, none⟩ = some (.int .u64 (cellsN G)) := by rw [← hX]; exact cell_of_row _ _ 0 _ _ _ (heap_alloc_last U _)
    have zX : U.heap.size < X.heap.size := by rw [← hX]; simp
    have PX := Lib.hid (PU.out.below hbX (by omega))
    have BX := Lib.hid (BU.out.trans (hbX.mono (by omega)))
    have TX := TU.out.below hbX (tab_lt TU.out)
    have d1 := (hbX.cell (p := ⟨V.heap.size, 0, none⟩) (by simp; omega)).trans c1
    have d2 := (hbX.cell (p := ⟨V.heap.size + 1, 0, none⟩) (by simp; omega)).trans c2
    have e1 := (hbX.frozen (p := ⟨V.heap.size, 0, none⟩) (by simp; omega)).trans f1
    have e2 := (hbX.frozen (p := ⟨V.heap.size + 1, 0, none⟩) (by simp; omega)).trans f2
    rw [hX]
    clear hX hbX PU BU TU c1 c2 f1 f2
    refine (wpIn_wide (n := 6)).1 (wp_bits 19 20 7 U.heap.size V.heap.size (cellsN G) (cellsN_lt G) rfl cM TX glt (by omega)
      (fun pre W2 => W2.cell? ⟨V.heap.size, 0, none⟩ = some (.float .f32 (rgL G.h pre).1) ∧ W2.frozen? ⟨V.heap.size, 0, none⟩ = false ∧ W2.cell? ⟨V.heap.size + 1, 0, none⟩ = some (.float .f32 (rgL G.h pre).2) ∧ W2.frozen? ⟨V.heap.size + 1, 0, none⟩ = false)
      (fun _ _ _ => False) (fun s A B h ⟨h1, h2, h3, h4⟩ => ⟨h.cell h1, (h.frozen h1).trans h2, h.cell h3, (h.frozen h3).trans h4⟩) (fun _ _ _ _ _ h => h) ⟨d1, e1, d2, e2⟩ ?assign ?body ?done ?stop)
    case assign =>
      intro l x W K hK
      simp only [List.setIfInBounds_toArray, List.set_cons_zero, List.set_cons_succ] at hK ⊢
      gi_wp2
      exact hK
    case body =>
      rintro l pre x W2 ⟨h1, h2, h3, h4⟩ hB2 _ hx64
      simp only [List.setIfInBounds_toArray, List.set_cons_zero, List.set_cons_succ]
      have s1 := Grd_fld (PX.out.below hB2 (by omega)).at'.h x.1 hx64
      rw [Nat.zero_add] at s1
      have HB2 := Lib.hid hB2
      obtain ⟨lo, hlo⟩ : ∃ lo, (rgL G.h (nos pre)).1 = lo := ⟨_, rfl⟩
      obtain ⟨gr, hgr⟩ : ∃ gr, (rgL G.h (nos pre)).2 = gr := ⟨_, rfl⟩
      have R : rgL G.h (nos (pre ++ [x])) = (if lessB (G.h x.1) lo = true then G.h x.1 else lo, if gtB (G.h x.1) gr = true then G.h x.1 else gr) := by rw [nos_snoc, rgL_snoc, rgS, hlo, hgr]
      rw [hlo] at h1
      rw [hgr] at h3
      have k3 : ∀ v, (W2.setCell ⟨V.heap.size, 0, none⟩ v).cell? ⟨V.heap.size + 1, 0, none⟩ = some (.float .f32 gr) := fun v => (World.cell?_setCell_other _ ⟨V.heap.size, 0, none⟩ ⟨V.heap.size + 1, 0, none⟩ _ (by simp)).trans h3
      clear hB2 hlo hgr d1 d2 e1 e2 cM TX
      cases b1 : lessB (G.h x.1) lo <;> cases b2 : gtB (G.h x.1) gr
      all_goals
        rw [b1, b2] at R
        have R3 := Lib.hid R
        clear R
        unfold lessB at b1
        unfold gtB at b2
        gi_wp2
        refine ⟨?_, ?_⟩
        · first | exact KeepsOthers.refl _ | exact KeepsOthers.setCell _ _ _ | exact KeepsOthers.trans (KeepsOthers.setCell _ _ _) (KeepsOthers.setCell _ _ _)
        have kb : Below V.heap.size W2 W2 := Below.refl _ _
        refine ⟨?_, ⟨?_, ?_, ?_, ?_⟩, ?_⟩
        · first | exact kb | exact kb.setCell (by simp) _ | exact (kb.setCell (by simp) _).setCell (by simp) _
        · rw [R3.out]; first | exact h1 | exact World.cell?_setCell_same' _ _ _ (by rw [h1]; rfl) | exact (World.cell?_setCell_other _ _ _ _ (by simp)).trans h1 | exact (World.cell?_setCell_other _ _ _ _ (by simp)).trans (World.cell?_setCell_same' _ _ _ (by rw [h1]; rfl))
        · first | exact h2 | simpa using h2
        · rw [R3.out]; first | exact h3 | exact World.cell?_setCell_same' _ _ _ (by rw [h3]; rfl) | exact k3 _ | exact World.cell?_setCell_same' _ _ _ (by rw [k3]; rfl)
        · first | exact h4 | simpa using h4
        · first | exact HB2.out.trans kb | exact HB2.out.trans (kb.setCell (by simp) _) | exact HB2.out.trans ((kb.setCell (by simp) _).setCell (by simp) _)
    case done =>
      rintro D W2 hD ⟨h1, h2, h3, h4⟩ hB2 hK
      rw [cellL_bits, rgL_cells] at h1 h3
      have HB3 := Lib.hid (BX.out.trans (hB2.mono (by omega)))
      clear h2 h4 hB2 d1 d2 e1 e2 cM TX
      go_wp2
      rename_i K2 hK2
      go_region
      all_goals
        refine hK2 _ _ ?_
        clear hK2 K2
        go_wp2
        exact ret_marks hK (fun W' _ => by simp [results, Tryd.results24, go_sem]; rfl) (fun W' _ hb => ⟨rfl, (HB3.out.drew).trans (hb w.heap.size (by omega))⟩)
    case stop =>
      rintro D c pre W _ _ h _ _
      exact h.elim
  ·
    obtain ⟨U, hU⟩ : ∃ U, World.drew ((V.alloc (.cells #[.float .f32 (G.h 0)] 23)).alloc (.cells #[.float .f32 (G.h 0)] 23)) = U := ⟨_, rfl⟩
    rw [hU]
    have q1 : Quiet ((V.alloc (.cells #[.float .f32 (G.h 0)] 23)).alloc (.cells #[.float .f32 (G.h 0)] 23)) U := by rw [← hU]; exact ⟨1, rfl⟩
    have bA : Below V.heap.size V (V.alloc (.cells #[.float .f32 (G.h 0)] 23)) := (Below.refl _ _).alloc (Nat.le_refl _) _
    have zA : (V.alloc (.cells #[.float .f32 (G.h 0)] 23)).heap.size = V.heap.size + 1 := by simp
    have bA2 : Below (V.alloc (.cells #[.float .f32 (G.h 0)] 23)).heap.size (V.alloc (.cells #[.float .f32 (G.h 0)] 23)) U := ((Below.refl _ _).alloc (Nat.le_refl _) _).trans (Quiet.below q1 _)
    have x1 : (V.alloc (.cells #[.float .f32 (G.h 0)] 23)).cell? ⟨V.heap.size, 0, none⟩ = some (.float .f32 (G.h 0)) := cell_of_row _ _ 0 _ _ _ (heap_alloc_last V _)
    have x2 : (V.alloc (.cells #[.float .f32 (G.h 0)] 23)).frozen? ⟨V.heap.size, 0, none⟩ = false := by have := (there_row (n := 1) (heap_alloc_last V (.cells #[.float .f32 (G.h 0)] 23)) rfl 0 (by omega)).2; rwa [Nat.zero_add] at this
    have c1 : U.cell? ⟨V.heap.size, 0, none⟩ = some (.float .f32 (G.h 0)) := (bA2.cell (p := ⟨V.heap.size, 0, none⟩) (by simp)).trans x1
    have f1 : U.frozen? ⟨V.heap.size, 0, none⟩ = false := (bA2.frozen (p := ⟨V.heap.size, 0, none⟩) (by simp)).trans x2
    have y1 : ((V.alloc (.cells #[.float .f32 (G.h 0)] 23)).alloc (.cells #[.float .f32 (G.h 0)] 23)).cell? ⟨(V.alloc (.cells #[.float .f32 (G.h 0)] 23)).heap.size, 0, none⟩ = some (.float .f32 (G.h 0)) := cell_of_row _ _ 0 _ _ _ (heap_alloc_last (V.alloc (.cells #[.float .f32 (G.h 0)] 23)) _)
    have y2 : ((V.alloc (.cells #[.float .f32 (G.h 0)] 23)).alloc (.cells #[.float .f32 (G.h 0)] 23)).frozen? ⟨(V.alloc (.cells #[.float .f32 (G.h 0)] 23)).heap.size, 0, none⟩ = false := by have := (there_row (n := 1) (heap_alloc_last (V.alloc (.cells #[.float .f32 (G.h 0)] 23)) (.cells #[.float .f32 (G.h 0)] 23)) rfl 0 (by omega)).2; rwa [Nat.zero_add] at this
    rw [zA] at y1 y2
    have c2 : U.cell? ⟨V.heap.size + 1, 0, none⟩ = some (.float .f32 (G.h 0)) := (q1.cell _).trans y1
    have f2 : U.frozen? ⟨V.heap.size + 1, 0, none⟩ = false := by obtain ⟨n, rfl⟩ := q1; exact y2
    have bU : Below V.heap.size V U := bA.trans (bA2.mono (by omega))
    have zU : V.heap.size + 1 < U.heap.size := World.block_lt_of_cell? U ⟨V.heap.size + 1, 0, none⟩ c2
    have PU := Lib.hid (P1.out.below bU (by omega))
    have BU := Lib.hid (B1.out.trans (bU.mono (by omega)))
    have TU := Lib.hid (T1.out.below bU (tab_lt T1.out))
    have glt : 0 < V.heap.size := tab_lt T1.out
    clear hU q1 bA bA2 zA x1 x2 y1 y2 bU ca cb c0 P1 B1 T1
    go_wp2_with (first | (go_at_call 57; refine (cells_valid G Hv.out _ _ PU.out.at').mono ?_; rintro e w' ⟨rfl, rfl⟩) | (go_at_call 59; refine (bitsIn_any (cellsN G) _).mono ?_; rintro e w' ⟨rfl, rfl⟩))
    obtain ⟨X, hX⟩ : ∃ X, U.alloc (.cells #[.int .u64 (cellsN G)] 25) = X := ⟨_, rfl⟩
    have hbX : Below U.heap.size U X := by rw [← hX]; exact (Below.refl _ _).alloc (Nat.le_refl _) _
    have cM : X.cell? ⟨U.heap.size, 0, none⟩ = some (.int .u64 (cellsN G)) := by rw [← hX]; exact cell_of_row _ _ 0 _ _ _ (heap_alloc_last U _)
    have zX : U.heap.size < X.heap.size := by rw [← hX]; simp
    have PX := Lib.hid (PU.out.below hbX (by omega))
    have BX := Lib.hid (BU.out.trans (hbX.mono (by omega)))
    have TX := TU.out.below hbX (tab_lt TU.out)
    have d1 := (hbX.cell (p := ⟨V.heap.size + 1, 0, none⟩) (by simp; omega)).trans c2
    have d2 := (hbX.cell (p := ⟨V.heap.size, 0, none⟩) (by simp; omega)).trans c1
    have e1 := (hbX.frozen (p := ⟨V.heap.size + 1, 0, none⟩) (by simp; omega)).trans f2
    have e2 := (hbX.frozen (p := ⟨V.heap.size, 0, none⟩) (by simp; omega)).trans f1
    rw [hX]
    clear hX hbX PU BU TU c1 c2 f1 f2
    refine (wpIn_wide (n := 6)).1 (wp_bits 19 20 7 U.heap.size V.heap.size (cellsN G) (cellsN_lt G) rfl cM TX glt (by omega)
      (fun pre W2 => W2.cell? ⟨V.heap.size + 1, 0, none⟩ = some (.float .f32 (rgL G.h pre).1) ∧ W2.frozen? ⟨V.heap.size + 1, 0, none⟩ = false ∧ W2.cell? ⟨V.heap.size, 0, none⟩ = some (.float .f32 (rgL G.h pre).2) ∧ W2.frozen? ⟨V.heap.size, 0, none⟩ = false)
      (fun _ _ _ => False) (fun s A B h ⟨h1, h2, h3, h4⟩ => ⟨h.cell h1, (h.frozen h1).trans h2, h.cell h3, (h.frozen h3).trans h4⟩) (fun _ _ _ _ _ h => h) ⟨d1, e1, d2, e2⟩ ?assign ?body ?done ?stop)
    case assign =>
      intro l x W K hK
      simp only [List.setIfInBounds_toArray, List.set_cons_zero, List.set_cons_succ] at hK ⊢
      gi_wp2
      exact hK
    case body =>
      rintro l pre x W2 ⟨h1, h2, h3, h4⟩ hB2 _ hx64
      simp only [List.setIfInBounds_toArray, List.set_cons_zero, List.set_cons_succ]
      have s1 := Grd_fld (PX.out.below hB2 (by omega)).at'.h x.1 hx64
      rw [Nat.zero_add] at s1
      have HB2 := Lib.hid hB2
      obtain ⟨lo, hlo⟩ : ∃ lo, (rgL G.h (nos pre)).1 = lo := ⟨_, rfl⟩
      obtain ⟨gr, hgr⟩ : ∃ gr, (rgL G.h (nos pre)).2 = gr := ⟨_, rfl⟩
      have R : rgL G.h (nos (pre ++ [x])) = (if lessB (G.h x.1) lo = true then G.h x.1 else lo, if gtB (G.h x.1) gr = true then G.h x.1 else gr) := by rw [nos_snoc, rgL_snoc, rgS, hlo, hgr]
      rw [hlo] at h1
      rw [hgr] at h3
      have k3 : ∀ v, (W2.setCell ⟨V.heap.size + 1, 0, none⟩ v).cell? ⟨V.heap.size, 0, none⟩ = some (.float .f32 gr) := fun v => (World.cell?_setCell_other _ ⟨V.heap.size + 1, 0, none⟩ ⟨V.heap.size, 0, none⟩ _ (by simp)).trans h3
      clear hB2 hlo hgr d1 d2 e1 e2 cM TX
      cases b1 : lessB (G.h x.1) lo <;> cases b2 : gtB (G.h x.1) gr
      all_goals
        rw [b1, b2] at R
        have R3 := Lib.hid R
        clear R
        unfold lessB at b1
        unfold gtB at b2
        gi_wp2
        refine ⟨?_, ?_⟩
        · first | exact KeepsOthers.refl _ | exact KeepsOthers.setCell _ _ _ | exact KeepsOthers.trans (KeepsOthers.setCell _ _ _) (KeepsOthers.setCell _ _ _)
        have kb : Below V.heap.size W2 W2 := Below.refl _ _
        refine ⟨?_, ⟨?_, ?_, ?_, ?_⟩, ?_⟩
        · first | exact kb | exact kb.setCell (by simp) _ | exact (kb.setCell (by simp) _).setCell (by simp) _
        · rw [R3.out]; first | exact h1 | exact World.cell?_setCell_same' _ _ _ (by rw [h1]; rfl) | exact (World.cell?_setCell_other _ _ _ _ (by simp)).trans h1 | exact (World.cell?_setCell_other _ _ _ _ (by simp)).trans (World.cell?_setCell_same' _ _ _ (by rw [h1]; rfl))
        · first | exact h2 | simpa using h2
        · rw [R3.out]; first | exact h3 | exact World.cell?_setCell_same' _ _ _ (by rw [h3]; rfl) | exact k3 _ | exact World.cell?_setCell_same' _ _ _ (by rw [k3]; rfl)
        · first | exact h4 | simpa using h4
        · first | exact HB2.out.trans kb | exact HB2.out.trans (kb.setCell (by simp) _) | exact HB2.out.trans ((kb.setCell (by simp) _).setCell (by simp) _)
    case done =>
      rintro D W2 hD ⟨h1, h2, h3, h4⟩ hB2 hK
      rw [cellL_bits, rgL_cells] at h1 h3
      have HB3 := Lib.hid (BX.out.trans (hB2.mono (by omega)))
      clear h2 h4 hB2 d1 d2 e1 e2 cM TX
      go_wp2
      rename_i K2 hK2
      go_region
      all_goals
        refine hK2 _ _ ?_
        clear hK2 K2
        go_wp2
        exact ret_marks hK (fun W' _ => by simp [results, Tryd.results24, go_sem]; rfl) (fun W' _ hb => ⟨rfl, (HB3.out.drew).trans (hb w.heap.size (by omega))⟩)
    case stop =>
      rintro D c pre W _ _ h _ _
      exact h.elim
end Go.Proofs.YtjbldgefabbgpaaDoor
