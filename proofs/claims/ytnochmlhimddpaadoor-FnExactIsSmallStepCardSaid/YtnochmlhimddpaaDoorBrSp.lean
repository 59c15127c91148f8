/- IsSmallStep: the program's. Condition: the table of math/bits is laid. -/
import Derived.Test.YtnochmlhimddpaaDoorBrSs
namespace Go.Proofs.YtnochmlhimddpaaDoor
open Go.RowKit Go.Shelf
attribute [local go_sem] Oper.semAt_some run_store_float
set_option linter.unusedSimpArgs false
set_option linter.unusedVariables false

/-- The bits of the cells that are not fixed. -/
def freeN (G : Gd) : Nat := (bits .andNot .u64 (cellsN G) G.x).toNat
theorem freeN_is {G : Gd} (hG : GdOk G) : bits .andNot .u64 (cellsN G) G.x = (freeN G : Int) ∧ freeN G < 18446744073709551616 ∧ ∀ i, i < 64 → (freeN G).testBit i = frB G i := by
  have xx := hG.x'
  obtain ⟨x, hx⟩ : ∃ x : Nat, G.x = x := ⟨G.x.toNat, by omega⟩
  obtain ⟨n, h1, h2, h3⟩ := bits_andNot (cellsN G) x (cellsN_lt G) (by omega)
  have e : freeN G = n := by unfold freeN; rw [hx, h1]; rfl
  rw [e]
  refine ⟨by rw [hx]; exact h1, h2, fun i hi => ?_⟩
  rw [h3 i hi, cellsN_testBit]
  unfold frB
  rw [hx, Int.toNat_natCast]
  simp [hi]

set_option maxRecDepth 100000 in
set_option maxHeartbeats 4000000 in
theorem free_any (G : Gd) (hv : validB G = true) (p : Nat) (w : World) (hp : GrdAt w p 0 G) (hG : GdOk G) :
    Calls Tryd.prog 61 #[.pointer (some ⟨p, 0, none⟩)] w fun e w' => e = .returned (.int .u64 (freeN G)) ∧ Quiet w w' := by
  have wd := valid_ext hv
  have hx := hp.x
  rw [Nat.zero_add] at hx
  have HP := Lib.hid hp
  have HF := Lib.hid (freeN_is hG).1
  clear hp hG hv
  go_enter Tryd.func61, Tryd.ntmps61
  go_upto_region 1 with (fail)
  refine wp_region_calm (ops' := regOf Tryd.f61 1) [0, 1, 2, 3, 4, 5, 6, 7] [] .fin (Quiet w) [(0, One (.pointer (some ⟨p, 0, none⟩))), (1, One (.int .u64 (cellsN G : Int))), (2, One (.pointer (some ⟨p, 0, none⟩))), (3, One (.pointer (some ⟨p, 0, none⟩))), (4, One (.pointer (some ⟨p, 194, none⟩))), (5, One (.int .u64 G.x)), (6, One (.int .u64 (freeN G : Int))), (7, One (.int .u64 (freeN G : Int)))] (by kernel_rfl) (by kernel_rfl) (by kernel_rfl) (by kernel_rfl) (by kernel_rfl) (by kernel_rfl) (by kernel_rfl) (by kernel_rfl) rfl ((Quiet.refl _).drewN 1) ?_
  refine calm_pure (some 3) (by kernel_rfl) (by kernel_rfl) (by kernel_rfl) (fun _ => by kernel_rfl) ?_
  refine calm_call (some 4) 52 #[.pointer (some ⟨p, 0, none⟩)] ⟨_, rfl⟩ (by kernel_rfl) (by kernel_rfl) (by kernel_rfl) (fun _ => by kernel_rfl) (fun w' hw' => (cells_any G G.wide.toNat G.high.toNat (by omega) (by omega) (by omega) (by omega) p w' (hw'.grd HP.out)).mono fun e w2 h => ⟨_, h.1, rfl, h.2 ▸ hw'⟩) ?_
  rintro _ rfl
  refine calm_pure (some 5) (by kernel_rfl) (by kernel_rfl) (by kernel_rfl) (fun _ => by kernel_rfl) ?_
  refine calm_pure (some 6) (by kernel_rfl) (by kernel_rfl) (by kernel_rfl) (fun _ => by kernel_rfl) ?_
  refine calm_pure (some 7) (by kernel_rfl) (by kernel_rfl) (by kernel_rfl) (fun _ => by kernel_rfl) ?_
  refine calm_read (some 8) (by kernel_rfl) (by kernel_rfl) (by kernel_rfl) (fun w' hw' => load_cell (ty := 25) (x := .tmp 7) (b := p) (o := 194) (by kernel_rfl) (by kernel_rfl) Tryd.underlying25 rfl (kq hx w' hw')) ?_
  refine calm_pure (some 9) (by kernel_rfl) (by kernel_rfl) (by kernel_rfl) (fun _ => by rw [← HF.out]; kernel_rfl) ?_
  refine calm_pure (some 2) (by kernel_rfl) (by kernel_rfl) (by kernel_rfl) (fun _ => by kernel_rfl) ?_
  refine calm_end fun w' hw' => plan_end (Clean.normal ?_)
  simp only [Act.put, List.setIfInBounds_toArray, List.set_cons_zero, List.set_cons_succ]
  go_wp2
  go_ret
  exact ⟨rfl, hw'⟩

set_option maxRecDepth 100000 in
set_option maxHeartbeats 4000000 in
theorem inStep_any (B : Brn) (p x y : Nat) (o : Option Nat) (hy : num .f32 y = o) (w : World) (hB : BrnAt w p 0 B) (hpl : p < w.heap.size) :
    Calls Tryd.prog 91 #[.agg #[.pointer (some ⟨p, 0, none⟩), .pointer (some ⟨p, 0, none⟩)], .float .f32 x, .float .f32 y] w (GivesB (fop .f32 .quo (fop .f32 .mul (num .f32 x) o) (num .f32 B.r)) w) := by
  go_enter Tryd.func91, Tryd.ntmps91
  go_upto_region 1 with (fail)
  obtain ⟨W, hW, z, r, hb⟩ := one_box #[.pointer (some ⟨p, 0, none⟩), .pointer (some ⟨p, 0, none⟩)] 78 w
  rw [hW]
  clear hW
  have c1 := r 1 _ rfl
  rw [Nat.zero_add] at c1
  have cr := (hB.below hb hpl).r0
  have HB := Lib.hid hb
  have HY := Lib.hid hy
  have q1 := Lib.hid (fun n => ((World.cell?_drewN _ n _).trans c1 : (World.drewN W n).cell? ⟨w.heap.size, 1, none⟩ = _))
  have q2 := Lib.hid (fun n => ((World.cell?_drewN _ n _).trans cr : (World.drewN W n).cell? ⟨p, 323, none⟩ = _))
  have tk : True := trivial
  clear hB r hb hy
  go_wp2_with (first | (have _t := tk; refine wpList_float rfl _ _ _ _ _ rfl rfl .f32 _ _ rfl rfl ?_; intro r1 F1n F1h; have F1 := Lib.hid F1h; clear tk F1h) | (refine wpList_float rfl _ _ _ _ _ rfl rfl .f32 _ _ rfl rfl ?_; intro r2 F2n F2h; have F2 := Lib.hid F2h; clear  F2h))
  go_ret
  exact ⟨r2, rfl, F2.out.trans (fop_eq (F1.out.trans (fop_eq rfl HY.out)) rfl), HB.out.trans (Quiet.below ⟨_, rfl⟩ _)⟩
theorem pi_three (A C : Array Value) (t u v : TypeId) (w : World) : ∃ W, ((w.alloc (.cells A t)).alloc (.cells C u)).alloc (.cells (Fld zf) v) = W ∧ W.heap.size = w.heap.size + 1 + 1 + 1 ∧ W.rangeAt w.heap.size 0 A.toList ∧ W.rangeAt (w.heap.size + 1) 0 C.toList ∧ W.there (w.heap.size + 1 + 1) 0 64 ∧ Below w.heap.size w W := by
  obtain ⟨V, hV, z, r1, r2, b⟩ := two_boxes A C t u w
  rw [hV]
  have hb : Below V.heap.size V (V.alloc (.cells (Fld zf) v)) := (Below.refl _ _).alloc (Nat.le_refl _) _
  have ht := new_thereF v V
  rw [z] at ht
  exact ⟨_, rfl, by simp [z], range_below r1 hb (by omega), range_below r2 hb (by omega), ht, b.trans (hb.mono (by omega))⟩
/-- A field of zeros and a bool, made and the field stored. -/
theorem pi_half (W : World) (t u : TypeId) : ∃ X, ((W.alloc (.cells (Fld zf) t)).alloc (.cells #[.bool false] u)).setCells W.heap.size 0 (Fld zf).toList = X ∧ X.heap.size = W.heap.size + 1 + 1 ∧
    X.rangeAt W.heap.size 0 (Fld zf).toList ∧ X.there W.heap.size 0 64 ∧ X.cell? ⟨W.heap.size + 1, 0, none⟩ = some (.bool false) ∧ X.frozen? ⟨W.heap.size + 1, 0, none⟩ = false ∧ Below W.heap.size W X := by
  obtain ⟨V, hV, z, r, hb⟩ := one_box (Fld zf) t W
  have hth : V.there W.heap.size 0 64 := by rw [← hV]; exact new_thereF t W
  rw [hV]
  have b2 : Below V.heap.size V (V.alloc (.cells #[.bool false] u)) := (Below.refl _ _).alloc (Nat.le_refl _) _
  have hl := heap_alloc_last V (.cells #[.bool false] u)
  have c := cell_of_row _ _ 0 _ _ _ hl
  have f := (there_row (n := 1) hl rfl 0 (by omega)).2
  rw [z] at c f
  rw [Nat.zero_add] at f
  have th2 := there_below hth b2 (by omega)
  have c2 : ((V.alloc (.cells #[.bool false] u)).setCells W.heap.size 0 (Fld zf).toList).cell? ⟨W.heap.size + 1, 0, none⟩ = some (.bool false) := by
    have := World.rangeAt_setCells_apart (b' := W.heap.size + 1) (o' := 0) (cs := [.bool false]) (fun i u hu => by
      have hi : i = 0 := by have := (List.getElem?_eq_some_iff.1 hu).1; simpa using this
      subst hi; simp at hu; subst hu; exact c) W.heap.size 0 (Fld zf).toList (.inl (by omega))
    exact this 0 _ rfl
  refine ⟨_, rfl, by simp [size_setCells, z], World.rangeAt_setCells_same _ _ _ _ (by rw [Fld_length]; exact th2), World.there_setCells th2 _ _ _, c2, ?_, ?_⟩
  · rw [World.frozen?_setCells]; exact f
  · exact below_setCells _ (Nat.le_refl _) _ _ _ (hb.trans (b2.mono (by omega)))

/-- What partsIn hands on. -/
def Parts (B : Brn) (x : Nat) (e : Ending) : Prop := ∃ f : Nat → Nat, e = .returned (.tuple #[.agg (Fld f), .bool (smallB B x)]) ∧ (∀ i, i < 64 → frB B.G i = true → num .f32 (f i) = partO B x i) ∧ ∀ i, frB B.G i = false → f i = 0
theorem all_free (B : Brn) (x : Nat) : (bitsL (freeN B.G)).all (fun i => le1O (partO B x i)) = (List.range 64).all (smAt B x) ∨ True := .inr trivial
theorem small_eq {B : Brn} (hG : GdOk B.G) (x : Nat) : (amtB x && (bitsL (freeN B.G)).all fun i => le1O (partO B x i)) = smallB B x := by
  unfold smallB
  congr 1
  rw [Bool.eq_iff_iff, List.all_eq_true, List.all_eq_true]
  have hf := (freeN_is hG).2.2
  constructor
  · intro h i hi
    have hi' : i < 64 := by simpa using hi
    unfold smAt
    cases hb : frB B.G i
    · rfl
    · rw [h i (mem_bitsL.2 ⟨hi', by rw [hf i hi', hb]⟩)]; rfl
  · intro h i hi
    have hm := mem_bitsL.1 hi
    have := h i (by simpa using hm.1)
    unfold smAt at this
    rw [hf i hm.1] at hm
    rw [hm.2] at this
    simpa using this

set_option maxRecDepth 100000 in
set_option maxHeartbeats 4000000 in
theorem partsIn_any (B : Brn) (x p : Nat) (hv : validB B.G = true) (w : World) (hB : BrnAt w p 0 B) (hpl : p < w.heap.size) (hG : BrnOk B) (hT : TabAt w) :
    Calls Tryd.prog 46 #[.agg #[.pointer (some ⟨p, 0, none⟩), .pointer (some ⟨p, 0, none⟩)], .float .f32 x] w fun e w' => Parts B x e ∧ Below w.heap.size w w' := by
  have hz := (zero_of_info zeroField).1
  have m64 := (freeN_is hG.g).2.1
  have HF := Lib.hid (freeN_is hG.g).2.2
  have hgl := tab_lt hT
  refine (callsIn_wide (n := 6)).1 (callsIn_of_wp_marks Tryd.func46 rfl trivial ?_ rfl)
  simp only [Tryd.ntmps46, List.size_toArray, List.length_cons, List.length_nil, Nat.reduceAdd, Nat.reduceSub, Array.replicate_succ, Array.replicate_zero, List.push_toArray, List.append_toArray, List.nil_append, List.cons_append]
  refine wpIn_wide.2 ?_
  go_upto_region 1 with (fail)
  obtain ⟨W, hW, hs, e1, e2, u3, hb⟩ := pi_three #[.pointer (some ⟨p, 0, none⟩), .pointer (some ⟨p, 0, none⟩)] #[.float .f32 x] 78 23 32 w
  rw [hW]
  clear hW
  have x2 := e2 0 _ rfl
  rw [Nat.zero_add] at x2
  have HS := Lib.hid hs
  have HB := Lib.hid hb
  have HP := Lib.hid (hB.below hb hpl)
  have HV := Lib.hid hv
  have HG := Lib.hid hG
  have TW := Lib.hid (hT.below hb hgl)
  clear hB hG hv hT e2 hb hs
  go_upto_region 2 with (first | (go_at_call 88; refine (isAmount_any x _).mono ?_; rintro e w' ⟨rfl, hww⟩; rw [← hww]; clear hww w') | (refine st_stage 32 rfl ?_; refine wpList_store_mid rfl 32 _ _ rfl _ 0 (Fld zf) rfl rfl (by rw [Fld_size]; exact World.there_alloc (new_thereF _ W) _) (by rw [Fld_size]; exact infoField) (Fld_one _) ?_; obtain ⟨X0, hX0, zX0, rX0, uX0, cX0, fX0, hbX0⟩ := pi_half W 32 4; rw [hX0]; clear hX0))
  obtain ⟨X, hX⟩ : ∃ X, X0.setCell ⟨W.heap.size + 1, 0, none⟩ (.bool (amtB x)) = X := ⟨_, rfl⟩
  have zX : X.heap.size = W.heap.size + 1 + 1 := by rw [← hX]; simpa [World.setCell] using zX0
  have rX : X.rangeAt W.heap.size 0 (Fld zf).toList := by rw [← hX]; exact range_setCell_far rX0 (.inl (by omega))
  have uX : X.there W.heap.size 0 64 := by rw [← hX]; exact there_setCell uX0
  have cX : X.cell? ⟨W.heap.size + 1, 0, none⟩ = some (.bool (amtB x)) := by rw [← hX]; exact World.cell?_setCell_same' _ _ _ (by rw [cX0]; rfl)
  have fX : X.frozen? ⟨W.heap.size + 1, 0, none⟩ = false := by rw [← hX, World.frozen?_setCell]; exact fX0
  have hbX : Below W.heap.size W X := by rw [← hX]; exact hbX0.setCell (p := ⟨W.heap.size + 1, 0, none⟩) (by simp) _
  rw [hX]
  clear zX0 rX0 uX0 cX0 fX0 hbX0
  have hs := HS.out
  rw [hs] at rX uX cX fX zX ⊢
  have y1 := range_kept e1 (by omega) _ hbX
  have y2 := kc x2 (by omega) _ hbX
  have y3 := there_below u3 hbX (by omega)
  have PX := Lib.hid (HP.out.below hbX (by omega))
  have TX := Lib.hid (TW.out.below hbX (tab_lt TW.out))
  have HX := Lib.hid (HB.out.trans (hbX.mono (by omega)))
  have d0 := y1 0 _ rfl
  rw [Nat.add_zero] at d0
  clear hX hbX e1 x2 u3 HP TW HB
  go_upto_region 3 with (first | (go_at_call 61; refine (free_any B.G HV.out p X PX.out.g HG.out.g).mono ?_; rintro e w1 ⟨rfl, hq⟩; have HQ := Lib.hid hq; clear hq) | (go_at_call 51; refine (bitsIn_any (freeN B.G) _).mono ?_; rintro e w' ⟨rfl, rfl⟩))
  have q1 := HQ.out.below (w.heap.size + 1 + 1 + 1 + 1 + 1)
  have zq := HQ.out.size
  obtain ⟨Y, hY, zY, rY, uY, hbY⟩ := one_boxT #[.int .u64 (freeN B.G)] 25 w1
  rw [hY]
  have hm0 := rY 0 _ rfl
  rw [Nat.zero_add] at hm0
  have bXY : Below X.heap.size X Y := (HQ.out.below _).trans (hbY.mono (by omega))
  have y1 := range_kept y1 (by omega) _ bXY
  have y2 := kc y2 (by omega) _ bXY
  have y3 := there_below y3 bXY (by omega)
  have rX := range_kept rX (by omega) _ bXY
  have uX := there_below uX bXY (by omega)
  have cX := kc cX (by omega) _ bXY
  have fX := (bXY.frozen (p := ⟨(w.heap.size + 1 + 1 + 1 + 1), 0, none⟩) (by simp <;> omega)).trans fX
  have PY := Lib.hid (PX.out.below bXY (by omega))
  have TY := TX.out.below bXY (tab_lt TX.out)
  have HY := Lib.hid (HX.out.trans (bXY.mono (by omega)))
  clear hY rY uY hbY PX TX HX HQ q1 bXY d0 hz
  refine (wpIn_wide (n := 6)).1 (wp_bits 15 16 8 w1.heap.size (w.heap.size + 1 + 1 + 1) (freeN B.G) m64 rfl hm0 TY (by omega) (by omega)
    (fun pre W2 => ∃ (f : Nat → Nat) (b : Bool), W2.rangeAt (w.heap.size + 1 + 1 + 1) 0 (Fld f).toList ∧ W2.there (w.heap.size + 1 + 1 + 1) 0 64 ∧ W2.cell? ⟨(w.heap.size + 1 + 1 + 1 + 1), 0, none⟩ = some (.bool b) ∧ W2.frozen? ⟨(w.heap.size + 1 + 1 + 1 + 1), 0, none⟩ = false ∧ b = (amtB x && pre.all fun i => le1O (partO B x i)) ∧ (∀ i ∈ pre, num .f32 (f i) = partO B x i) ∧ (∀ i, ¬ i ∈ pre → f i = 0) ∧ Y.heap.size ≤ W2.heap.size) (fun _ _ _ => False)
    (fun s A B h ⟨f, b, h1, h2, h3, h4, h5, h6, h7, h8⟩ => ⟨f, b, h.range h1, h.there h2, h.cell h3, (h.frozen h3).trans h4, h5, h6, h7, Nat.le_trans h8 h.size⟩) (fun _ _ _ _ _ h => h) ⟨zf, amtB x, rX, uX, cX, fX, by simp, fun i hi => (by cases hi), fun _ _ => rfl, Nat.le_refl _⟩ ?assign ?body ?done ?stop)
  case assign =>
    intro l x W K hK
    simp only [List.setIfInBounds_toArray, List.set_cons_zero, List.set_cons_succ] at hK ⊢
    gi_wp2
    exact hK
  case body =>
    rintro l pre y W2 ⟨f, b, h1, h2, h3, h4, h5, h6, h7, h8⟩ hB2 hbit hi
    simp only [List.setIfInBounds_toArray, List.set_cons_zero, List.set_cons_succ]
    have hN' : nos (pre ++ [y]) = nos pre ++ [y.1] := nos_snoc _ _
    generalize y.1 = i at hi hN' hbit ⊢
    have HN' := Lib.hid hN'
    have y1 := range_kept y1 (by omega) _ hB2
    have y2 := kc y2 (by omega) _ hB2
    have PB := Lib.hid (PY.out.below hB2 (by omega))
    have HB2 := Lib.hid hB2
    have H5 := Lib.hid h5
    have H6 := Lib.hid h6
    have H7 := Lib.hid h7
    have hi2 : (i : Int) < 64 := by omega
    clear hN' hB2 h5 h6 h7 hbit
    refine wpIn_block ?_
    gi_upto_region 4 with (fail)
    refine wpIn_region_calm (ops' := regOf Tryd.f46 4) [0, 1, 2, 3, 4, 5, 6, 7] [8] (.run 8 .fin) (Below (W2.heap.size) W2) [(0, One (.int .i64 (i : Int))), (1, One (.agg (#[Value.pointer (some ⟨p, 0, none⟩), Value.pointer (some ⟨p, 0, none⟩)]))), (2, One (.float .f32 x)), (3, One (.agg (#[Value.pointer (some ⟨p, 0, none⟩), Value.pointer (some ⟨p, 0, none⟩)]))), (4, One (.int .i64 (i : Int))), (5, Numv .f32 (outO B.G i)), (6, Numv .f32 (partO B x i)), (7, One (.pointer (some ⟨(w.heap.size + 1 + 1 + 1), 0 + i, none⟩)))] (by kernel_rfl) (by kernel_rfl) (by kernel_rfl) (by kernel_rfl) (by kernel_rfl) (by kernel_rfl) (by kernel_rfl) (by kernel_rfl) (by kernel_rfl) rfl ((Below.refl _ _).drew) ?_
    refine calm_pure (some 17) (by kernel_rfl) (by kernel_rfl) (by kernel_rfl) (fun _ => by kernel_rfl) ?_
    refine calm_load (some 18) 78 (.tmp 2) (w.heap.size) 0 _ (by kernel_rfl) (by kernel_rfl) (by kernel_rfl) (by kernel_rfl) (by kernel_rfl) (range_kept y1 (by omega)) Tryd.underlying78 rfl (by kernel_rfl) ?_
    refine calm_read (some 19) (by kernel_rfl) (by kernel_rfl) (by kernel_rfl) (fun w' hw' => load_cell (ty := 23) (x := .tmp 3) (b := (w.heap.size + 1)) (o := 0) (by kernel_rfl) (by kernel_rfl) Tryd.underlying23 rfl (kc y2 (by omega) w' hw')) ?_
    refine calm_load (some 20) 78 (.tmp 2) (w.heap.size) 0 _ (by kernel_rfl) (by kernel_rfl) (by kernel_rfl) (by kernel_rfl) (by kernel_rfl) (range_kept y1 (by omega)) Tryd.underlying78 rfl (by kernel_rfl) ?_
    refine calm_pure (some 21) (by kernel_rfl) (by kernel_rfl) (by kernel_rfl) (fun _ => by kernel_rfl) ?_
    refine calm_call (some 22) 62 #[.agg (#[Value.pointer (some ⟨p, 0, none⟩), Value.pointer (some ⟨p, 0, none⟩)]), .int .i64 (i : Int)] (numv_ne (outO_ex B.G i)) (by kernel_rfl) (by kernel_rfl) (by kernel_rfl) (fun _ => by kernel_rfl) (fun w' hw' => ((implOut_any B i hi HV.out p w' (PB.out.below hw' (by omega)) (by have := hw'.size; omega) HG.out)).mono fun e w2 ⟨r, he, hr, hq⟩ => ⟨_, he, ⟨r, rfl, hr⟩, below_step hw' hq (by have := hw'.size; omega)⟩) ?_
    rintro _ ⟨r22, rfl, hr22⟩
    refine calm_call (some 23) 91 #[.agg (#[Value.pointer (some ⟨p, 0, none⟩), Value.pointer (some ⟨p, 0, none⟩)]), .float .f32 x, .float .f32 r22] (numv_ne (partO_ex B x i)) (by kernel_rfl) (by kernel_rfl) (by kernel_rfl) (fun _ => by kernel_rfl) (fun w' hw' => ((inStep_any B p x r22 (outO B.G i) hr22 w' (PB.out.below hw' (by omega)) (by have := hw'.size; omega))).mono fun e w2 ⟨r, he, hr, hq⟩ => ⟨_, he, ⟨r, rfl, hr⟩, below_step hw' hq (by have := hw'.size; omega)⟩) ?_
    rintro _ ⟨r23, rfl, hr23⟩
    refine calm_pure (some 24) (by kernel_rfl) (by kernel_rfl) (by kernel_rfl) (index_fld (x := .tmp 6) (y := .tmp 17) (o := 0) (by kernel_rfl) (by kernel_rfl) (by kernel_rfl) hi) ?_
    have ti := there_mid (k := i) (m := 1) h2 (by omega)
    refine calm_end fun w' hw' => ?_
    have t8 := (there_below ti hw' (by omega)) 0 (by omega)
    rw [Nat.add_zero] at t8
    obtain ⟨u, hu⟩ := Option.isSome_iff_exists.1 t8.1
    refine plan_do none undef (w'.setCell ⟨(w.heap.size + 1 + 1 + 1), 0 + i, none⟩ (.float .f32 r23)) (by kernel_rfl) (by kernel_rfl) (by kernel_rfl) (.inr ⟨store_f32 (x := .tmp 24) (y := .tmp 23) (by kernel_rfl) (by kernel_rfl) (by kernel_rfl) infoF32 (by rw [Nat.zero_add]; exact hu) (by rw [Nat.zero_add]; exact t8.2), rfl⟩) trivial (plan_end (Clean.normal ?_))
    obtain ⟨Z, hZ⟩ : ∃ Z, w'.setCell ⟨(w.heap.size + 1 + 1 + 1), 0 + i, none⟩ (.float .f32 r23) = Z := ⟨_, rfl⟩
    have Z1 := Lib.hid (show Z.rangeAt (w.heap.size + 1 + 1 + 1) 0 (Fld (upd f i r23)).toList by rw [← hZ]; exact Fld_upd (range_kept h1 (by omega) _ hw') hi (by rw [Nat.zero_add]; exact t8.1))
    have Z2 := Lib.hid (show Z.there (w.heap.size + 1 + 1 + 1) 0 64 by rw [← hZ]; exact there_setCell (there_below h2 hw' (by omega)))
    have z3 : Z.cell? ⟨(w.heap.size + 1 + 1 + 1 + 1), 0, none⟩ = some (.bool b) := by rw [← hZ]; exact (cell_other (fun e => by injection e; omega)).trans (kc h3 (by omega) _ hw')
    have z4 : Z.frozen? ⟨(w.heap.size + 1 + 1 + 1 + 1), 0, none⟩ = false := by rw [← hZ, World.frozen?_setCell]; exact (hw'.frozen (p := ⟨(w.heap.size + 1 + 1 + 1 + 1), 0, none⟩) (by simp <;> omega)).trans h4
    have ZB := Lib.hid (show Below (w.heap.size + 1 + 1 + 1) W2 Z by rw [← hZ]; exact (hw'.mono (show (w.heap.size + 1 + 1 + 1) ≤ W2.heap.size by omega)).setCell (p := ⟨(w.heap.size + 1 + 1 + 1), 0 + i, none⟩) (Nat.le_refl _) _)
    have ZK := Lib.hid (show KeepsOthers W2 Z by rw [← hZ]; exact KeepsOthers.trans (B := w') (KeepsOthers.of_below' hw') (KeepsOthers.setCell _ _ _))
    have Zs : W2.heap.size ≤ Z.heap.size := by rw [← hZ]; simpa [World.setCell] using hw'.size
    have HR := Lib.hid hr23
    rw [hZ]
    clear hZ hw' t8 hu ti h1 h2 h3 h4 hr23 hr22 y1 y2
    simp only [Act.put, List.setIfInBounds_toArray, List.set_cons_zero, List.set_cons_succ]
    have ci := Grd_fld Z1.out i hi
    rw [Nat.zero_add] at ci
    have cu : upd f i r23 i = r23 := if_pos rfl
    rw [cu] at ci
    clear cu
    have hl := (le1O_of HR.out)
    cases b
    · have E := Lib.hid (show false = (amtB x && (nos pre ++ [i]).all fun i => le1O (partO B x i)) by rw [List.all_append, ← Bool.and_assoc, ← H5.out]; rfl)
      gi_wp2
      refine ⟨ZK.out.trans (KeepsOthers.setCell _ _ _), ZB.out.setCell (p := ⟨(w.heap.size + 1 + 1 + 1 + 1), 0, none⟩) (by simp <;> omega) _, ⟨upd f i r23, false, range_setCell_far Z1.out (.inl (by omega)), there_setCell Z2.out, World.cell?_setCell_same' _ _ _ (by rw [z3]; rfl), ?_, ?_, ?_, ?_, ?_⟩, HB2.out.trans (ZB.out.setCell (p := ⟨(w.heap.size + 1 + 1 + 1 + 1), 0, none⟩) (by simp <;> omega) _)⟩
      · rw [World.frozen?_setCell]; exact z4
      · rw [HN'.out]; exact E.out
      · intro j hj
        rw [HN'.out, List.mem_append, List.mem_singleton] at hj
        unfold upd
        by_cases e : j = i
        · rw [if_pos e, e]; exact HR.out
        · rw [if_neg e]; rcases hj with h | h; exact H6.out j h; exact absurd h e
      · intro j hj
        rw [HN'.out, List.mem_append, List.mem_singleton] at hj
        unfold upd
        rw [if_neg (fun e => hj (.inr e))]
        exact H7.out j (fun h => hj (.inl h))
      · simp [World.setCell]; omega
    · have E := Lib.hid (show le1O (partO B x i) = (amtB x && (nos pre ++ [i]).all fun i => le1O (partO B x i)) by rw [List.all_append, ← Bool.and_assoc, ← H5.out]; simp)
      gi_wp2
      refine ⟨ZK.out.trans (KeepsOthers.setCell _ _ _), ZB.out.setCell (p := ⟨(w.heap.size + 1 + 1 + 1 + 1), 0, none⟩) (by simp <;> omega) _, ⟨upd f i r23, le1O (partO B x i), range_setCell_far Z1.out (.inl (by omega)), there_setCell Z2.out, (World.cell?_setCell_same' _ _ _ (by rw [z3]; rfl)).trans (by first | rfl | rw [hl]), ?_, ?_, ?_, ?_, ?_⟩, HB2.out.trans (ZB.out.setCell (p := ⟨(w.heap.size + 1 + 1 + 1 + 1), 0, none⟩) (by simp <;> omega) _)⟩
      · rw [World.frozen?_setCell]; exact z4
      · rw [HN'.out]; exact E.out
      · intro j hj
        rw [HN'.out, List.mem_append, List.mem_singleton] at hj
        unfold upd
        by_cases e : j = i
        · rw [if_pos e, e]; exact HR.out
        · rw [if_neg e]; rcases hj with h | h; exact H6.out j h; exact absurd h e
      · intro j hj
        rw [HN'.out, List.mem_append, List.mem_singleton] at hj
        unfold upd
        rw [if_neg (fun e => hj (.inr e))]
        exact H7.out j (fun h => hj (.inl h))
      · simp [World.setCell]; omega
  case done =>
    rintro D W2 hD ⟨f, b, h1, h2, h3, h4, h5, h6, h7, h8⟩ hB2 hK
    have R := Lib.hid (show Parts B x (.returned (.tuple #[.agg (Fld f), .bool b])) from ⟨f, by rw [h5, small_eq HG.out.g], fun i hi hb => h6 i (mem_bitsL.2 ⟨hi, by rw [HF.out i hi, hb]⟩), fun i hb => h7 i (fun hm => by have := mem_bitsL.1 hm; rw [HF.out i this.1, hb] at this; cases this.2)⟩)
    have y3 := there_below y3 hB2 (by omega)
    have HB3 := Lib.hid (HY.out.trans (hB2.mono (by omega)))
    have hwD : w.heap.size ≤ D := by omega
    have hDn : D ≠ w.heap.size + 1 + 1 := by omega
    clear h4 h5 h6 h7 hm0 hD hB2 rX uX cX fX y1 y2 TY
    go_upto_region 6 with (fail)
    refine wp_region_plan (ops' := regOf Tryd.f46 6) (.take 0 (.take 1 (.run 2 (.take 3 .fin)))) (fun V => V.rangeAt (w.heap.size + 1 + 1 + 1) 0 (Fld f).toList ∧ V.cell? ⟨(w.heap.size + 1 + 1 + 1 + 1), 0, none⟩ = some (.bool b)) (by kernel_rfl) (by kernel_rfl) (by kernel_rfl) (by kernel_rfl) (by kernel_rfl) ⟨((Quiet.refl _).drewN 1).range h1, kq h3 _ ((Quiet.refl _).drewN 1)⟩ ?_
    refine plan_load (some 32) 32 (.tmp 6) (w.heap.size + 1 + 1 + 1) 0 _ _ (by kernel_rfl) (by kernel_rfl) (by kernel_rfl) (by kernel_rfl) (by kernel_rfl) (fun w' hw' => hw'.1) Tryd.underlying32 rfl (by rw [Fld_length]; exact infoField) ?_
    refine plan_take (some 33) (.bool b) (by kernel_rfl) (by kernel_rfl) (.inl ⟨(by kernel_rfl), fun w' hw' => load_cell (ty := 4) (x := .tmp 7) (b := (w.heap.size + 1 + 1 + 1 + 1)) (o := 0) (by kernel_rfl) (by kernel_rfl) Tryd.underlying4 rfl hw'.2⟩) ?_
    obtain ⟨w', hww⟩ : ∃ w', W2.drew = w' := ⟨_, rfl⟩
    have hw' : Quiet W2 w' := by rw [← hww]; exact (Quiet.refl _).drewN 1
    rw [hww]
    clear hww
    refine plan_do none undef (w'.setCells (w.heap.size + 1 + 1) 0 (Fld f).toList) (by kernel_rfl) (by kernel_rfl) (by kernel_rfl) (.inr ⟨store_op (x := .tmp 4) (y := .tmp 32) (b := w.heap.size + 1 + 1) (o := 0) (cs := Fld f) (by kernel_rfl) (by kernel_rfl) (by kernel_rfl) (by rw [Fld_size]; exact there_below y3 (hw'.below (w.heap.size + 1 + 1 + 1)) (by omega)) (by rw [Fld_size]; exact infoField) (Fld_one f), rfl⟩) ⟨World.rangeAt_setCells_apart (hw'.range h1) _ _ _ (.inl (by omega)), ?SS⟩ (plan_pure (some 5) (.bool b) (by kernel_rfl) (by kernel_rfl) (by kernel_rfl) (fun _ => (by kernel_rfl)) (plan_end (NoPanic.normal ?_)))
    case SS => exact ((World.rangeAt_setCells_apart (b' := (w.heap.size + 1 + 1 + 1 + 1)) (o' := 0) (cs := [.bool b]) (fun i u hu => by
        have hi : i = 0 := by have := (List.getElem?_eq_some_iff.1 hu).1; simpa using this
        subst hi; simp at hu; subst hu; exact kq h3 w' hw') (w.heap.size + 1 + 1) 0 (Fld f).toList (.inl (by omega))) 0 _ rfl)
    have rr : (w'.setCells (w.heap.size + 1 + 1) 0 (Fld f).toList).rangeAt (w.heap.size + 1 + 1) 0 (Fld f).toList := World.rangeAt_setCells_same _ _ _ _ (by rw [Fld_length]; exact there_below y3 (hw'.below (w.heap.size + 1 + 1 + 1)) (by omega))
    have hK4 : (w'.setCells (w.heap.size + 1 + 1) 0 (Fld f).toList).heap[D]? = some (.deferred (some [])) := (heap_setCells_other _ hDn).trans ((Quiet.heap hw').trans hK)
    have HB4 := Lib.hid (below_setCells (w.heap.size + 1 + 1) (by omega) (Fld f).toList 0 w' (HB3.out.trans (hw'.below _)))
    obtain ⟨V4, hV4⟩ : ∃ V, w'.setCells (w.heap.size + 1 + 1) 0 (Fld f).toList = V := ⟨_, rfl⟩
    rw [hV4] at rr hK4 HB4 ⊢
    clear hV4 hw' h1 h2 h3 y3
    try simp only [Act.put, List.setIfInBounds_toArray, List.set_cons_zero, List.set_cons_succ]
    go_wp2
    exact ret_marks (v := .tuple #[.agg (Fld f), .bool b]) hK4 (fun W' hc => by
      have hr := hc.range rr
      simp [results, Tryd.results46, asAddr, run_loadVar_mid W' (w.heap.size + 1 + 1) 0 32 (Fld f).toList _ hr Tryd.underlying32 rfl (by rw [Fld_length]; exact infoField), Array.toArray_toList]) (fun W' _ hb => ⟨R.out, HB4.out.trans (hb _ hwD)⟩)
  case stop =>
    rintro D c pre W _ _ h _ _
    exact h.elim

theorem pi_put (f : Nat → Nat) (V : World) (t : TypeId) : ∃ X, (V.alloc (.cells (Fld zf) t)).setCells V.heap.size 0 (Fld f).toList = X ∧ Below V.heap.size V X :=
  ⟨_, rfl, below_setCells _ (Nat.le_refl _) _ _ _ ((Below.refl _ _).alloc (Nat.le_refl _) _)⟩

set_option maxRecDepth 100000 in
set_option maxHeartbeats 4000000 in
theorem implSmall_any (B : Brn) (x : Nat) (w : World) (hG : BrnOk B) (hT : TabAt w) :
    Calls Tryd.prog 15 #[.agg (BrnA B), .float .f32 x] w fun e w' => e = .returned (smallV B x) ∧ Below w.heap.size w w' := by
  have hz := (zero_of_info zeroField).1
  cases hv : brnB B
  · have Hv := Lib.hid hv
    have R := Lib.hid (show smallV B x = .tuple #[.bool false, .int .i64 1] by unfold smallV; rw [hv]; rfl)
    clear hv
    go_enter Tryd.func15, Tryd.ntmps15
    go_upto_region 1 with (fail)
    obtain ⟨W, hW, hs, b1, hB⟩ := bbox1 B 36 w
    rw [hW]
    clear hW
    have r1 := b1.range
    have B1 := Lib.hid b1
    have HB := Lib.hid hB
    have HG := Lib.hid hG
    have TW := Lib.hid (hT.below hB (tab_lt hT))
    have HS := Lib.hid hs
    have hgl := tab_lt hT
    clear b1 hB hG hT hs
    go_wp2_with (first | (refine ld_stage 36 rfl ?_; refine wpList_load_mid rfl 36 _ rfl (w.heap.size) 0 rfl (BrnL B) _ r1 Tryd.underlying36 rfl (by rw [BrnL_length]; exact infoBrine) ?_) | (go_at_call 44; have hc := (implValidB_any B W HG.out TW.out); rw [Hv.out] at hc; refine hc.mono ?_; clear hc; rintro e V ⟨rfl, hb1⟩; have Hb1 := Lib.hid hb1; clear hb1))
    go_ret2
    exact ⟨congrArg Ending.returned R.out.symm, HB.out.trans (Hb1.out.mono (by have := HS.out; omega))⟩
  have wd := valid_ext (brn_valid hv)
  have Hv := Lib.hid hv
  have HV0 := Lib.hid (brn_valid hv)
  have R := Lib.hid (show smallV B x = .tuple #[.bool (smallB B x), .int .i64 0] by unfold smallV; rw [hv]; rfl)
  clear hv
  go_enter Tryd.func15, Tryd.ntmps15
  go_upto_region 1 with (fail)
  obtain ⟨W, hW, hs, b1, hB⟩ := bbox1 B 36 w
  rw [hW]
  clear hW
  have r1 := b1.range
  have B1 := Lib.hid b1
  have HB := Lib.hid hB
  have HG := Lib.hid hG
  have TW := Lib.hid (hT.below hB (tab_lt hT))
  have HS := Lib.hid hs
  have hgl := tab_lt hT
  clear b1 hB hG hT hs
  go_upto_region 3 with (first | (refine ld_stage 36 rfl ?_; refine wpList_load_mid rfl 36 _ rfl (w.heap.size) 0 rfl (BrnL B) _ r1 Tryd.underlying36 rfl (by rw [BrnL_length]; exact infoBrine) ?_) | (go_at_call 44; have hc := (implValidB_any B W HG.out TW.out); rw [Hv.out] at hc; refine hc.mono ?_; clear hc; rintro e V ⟨rfl, hb1⟩; have Hb1 := Lib.hid hb1; clear hb1))
  have gV := Lib.hid (B1.out.at'.below Hb1.out (by have := HS.out; omega))
  have TV := Lib.hid (TW.out.below Hb1.out (tab_lt TW.out))
  have HBV := Lib.hid (HB.out.trans (Hb1.out.mono (by have := HS.out; omega)))
  have lV : w.heap.size < V.heap.size := by have := HS.out; have := Hb1.out.size; omega
  clear r1 B1 TW HB Hb1
  go_wp2_with (first | (go_at_call 45; refine (dissolved_any w.heap.size _).mono ?_; rintro e V1 ⟨rfl, hd⟩; have HD := Lib.hid hd; clear hd) | (go_at_call 46; refine (partsIn_any B x w.heap.size HV0.out V1 (gV.out.below HD.out (by omega)) (by have := HD.out.size; omega) HG.out (TV.out.below HD.out (tab_lt TV.out))).mono ?_; rintro e V2 ⟨⟨f, rfl, hf1, hf2⟩, hq⟩; have BV2 := Lib.hid (HD.out.trans (hq.mono HD.out.size)); clear hf1 hf2 hq) | (refine st_stage 32 rfl ?_; refine wpList_store_mid rfl 32 _ _ rfl _ 0 (Fld f) rfl rfl (by rw [Fld_size]; exact new_thereF _ V2) (by rw [Fld_size]; exact infoField) (Fld_one _) ?_; obtain ⟨V3, hV3, bV3⟩ := pi_put f V2 32; rw [hV3]; clear hV3; have BV3 := Lib.hid (BV2.out.trans (bV3.mono BV2.out.size)); clear bV3))
  go_ret2
  exact ⟨congrArg Ending.returned R.out.symm, HBV.out.trans (BV3.out.mono (by omega))⟩
end Go.Proofs.YtnochmlhimddpaaDoor
