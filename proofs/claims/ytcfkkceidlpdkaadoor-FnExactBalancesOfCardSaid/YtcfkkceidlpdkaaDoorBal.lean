/- The balance of a cell: the model's and the program's. No condition. -/
import Derived.Test.YtcfkkceidlpdkaaDoorFlowFrom
import Derived.Test.YtcfkkceidlpdkaaDoorNbs
import Derived.Test.YtcfkkceidlpdkaaDoorMirrorI
namespace Go.Proofs.YtcfkkceidlpdkaaDoor
open Go.RowKit Go.Shelf
attribute [local go_sem] Oper.semAt_some run_store_float
set_option linter.unusedSimpArgs false
set_option linter.unusedVariables false

/-- The balance over the first sides. -/
def balTo (G : Gd) (k : Nat) : Nat → Option Nat
  | 0 => num .f32 (G.g k)
  | n + 1 => if nbB G k (n : Int) = true then fop .f32 .sub (balTo G k n) (flowO G k (nbN k (n : Int))) else balTo G k n
def balO (G : Gd) (k : Nat) : Option Nat := balTo G k 4
theorem balTo_ex (G : Gd) (k n : Nat) : ∃ r, num .f32 r = balTo G k n := by
  induction n with
  | zero => exact num_ex _ _
  | succ n ih =>
    unfold balTo
    split
    · exact fop_ex _ _ rfl _ _ ih (flowO_ex _ _ _)
    · exact ih
theorem balO_ex (G : Gd) (k : Nat) : ∃ r, num .f32 r = balO G k := balTo_ex _ _ _
/-- The same over a list of sides. -/
def balL (G : Gd) (k : Nat) (l : List Nat) : Option Nat := l.foldl (fun o (s : Nat) => fop .f32 .sub o (flowO G k (nbN k (s : Int)))) (num .f32 (G.g k))
theorem balL_snoc (G : Gd) (k : Nat) (l : List Nat) (s : Nat) : balL G k (l ++ [s]) = fop .f32 .sub (balL G k l) (flowO G k (nbN k (s : Int))) := by simp [balL]
theorem balL_sides (G : Gd) (k n : Nat) : balL G k (sidesTo G k n) = balTo G k n := by
  induction n with
  | zero => rfl
  | succ n ih =>
    cases h : nbB G k (n : Int)
    · rw [sidesTo_no h, ih]; simp [balTo, h]
    · rw [sidesTo_yes h, balL_snoc, ih]; simp [balTo, h]
/-- A number that is told, up to which NaN it is; what was there is as it was. -/
def GivesB (o : Option Nat) (w : World) (e : Ending) (w' : World) : Prop := ∃ r, e = .returned (.float .f32 r) ∧ num .f32 r = o ∧ Below w.heap.size w w'

set_option maxRecDepth 100000 in
set_option maxHeartbeats 1000000 in
theorem l01Balance_any (G : Gd) (k : Nat) (hk : k < 64) (hv : validB G = true) (p : Nat) (w : World) (hp : GrdAt w p 0 G) (hG : GdOk G) :
    Calls Tryd.prog 52 #[.pointer (some ⟨p, 0, none⟩), .int .i64 k] w (GivesN (balO G k) w) := by
  have hc := hp.g
  rw [Nat.zero_add] at hc
  have c0 := Grd_fld hc k hk
  have Hp := Lib.hid hp
  have HG := Lib.hid hG
  clear hp hG hc
  go_enter Tryd.func52, Tryd.ntmps52
  go_wp2
  go_loopw [5, 6] (fun s i wr => ∃ n b : Nat, n ≤ 4 ∧ i = .int .i64 n ∧ s = .float .f32 b ∧ Hid (num .f32 b = balTo G k n) ∧ Hid (Quiet w wr)) (fun _ i _ => 4 - (intOf i).toNat)
  case atStart => exact ⟨0, G.g k, by omega, rfl, rfl, rfl, Quiet.refl _⟩
  case round =>
    obtain ⟨n, b, hn, rfl, rfl, hb, hQ⟩ := hrel
    by_cases hlt : n < 4
    · have hside : sideB (n : Int) = true := by simp [sideB]; omega
      cases hi : nbB G k (n : Int)
      · have Hb := Lib.hid (show besideN G k (n : Int) = -1 by simp [besideN, hi])
        have E := Lib.hid (show balTo G k (n + 1) = balTo G k n by simp [balTo, hi])
        clear hi
        go_wp2_with (go_at_call 86; have hc := l01Beside_any G k hk n hside _ _ (Quiet.grd hQ.out Hp.out) HG.out; rw [Hb.out] at hc; refine hc.mono ?_; clear hc; rintro e w' ⟨rfl, rfl⟩)
        go_roundw
        case rel => exact ⟨n + 1, b, by omega, by go_num, rfl, hb.out.trans E.out.symm, hQ.out⟩
        case measure => simp [intOf]; omega
      · obtain ⟨hj1, hj⟩ := nbN_is hv hi
        have Hb := Lib.hid (show besideN G k (n : Int) = (nbN k (n : Int) : Int) by simp [besideN, hi, hj1])
        have E := Lib.hid (show balTo G k (n + 1) = fop .f32 .sub (balTo G k n) (flowO G k (nbN k (n : Int))) by simp [balTo, hi])
        have HF := Lib.hid (show flowS G k n = flowO G k (nbN k (n : Int)) by simp [flowS, hi])
        clear hi hj1
        go_wp2_with (first | (go_at_call 86; have hc := l01Beside_any G k hk n hside _ _ (Quiet.grd hQ.out Hp.out) HG.out; rw [Hb.out] at hc; refine hc.mono ?_; clear hc; rintro e w' ⟨rfl, rfl⟩) | (go_at_call 44; refine (l01Flow_any G k hk hv n hside _ _ (Quiet.grd hQ.out Hp.out) HG.out).mono ?_; rintro e w1 ⟨q, rfl, hq, hQ1⟩; have HQ := Lib.hid hq; have HQ1 := Lib.hid hQ1; clear hq hQ1) | (refine wpList_float rfl _ _ _ _ _ rfl rfl .f32 _ _ rfl rfl ?_; intro r nn hr; have HR := Lib.hid hr; clear hr))
        go_roundw
        case rel => exact ⟨n + 1, r, by omega, by go_num, rfl, (HR.out.trans (by rw [E.out, hb.out, HQ.out, HF.out])), (hQ.out.trans HQ1.out).drewN nn⟩
        case measure => simp [intOf]; omega
    · obtain rfl : n = 4 := by omega
      go_wp2
      go_ret
      exact ⟨b, rfl, hb.out, hQ.out⟩

set_option maxRecDepth 100000 in
set_option maxHeartbeats 4000000 in
theorem implBalance_any (G : Gd) (k : Nat) (hk : k < 64) (hv : validB G = true) (p : Nat) (w : World) (hp : GrdAt w p 0 G) (hpl : p < w.heap.size) (hG : GdOk G) :
    Calls Tryd.prog 54 #[.pointer (some ⟨p, 0, none⟩), .int .i64 k] w (GivesB (balO G k) w) := by
  refine (callsIn_wide (n := 6)).1 (callsIn_of_wp_marks Tryd.func54 rfl trivial ?_ rfl)
  simp only [Tryd.ntmps54, List.size_toArray, List.length_cons, List.length_nil, Nat.reduceAdd, Nat.reduceSub, Array.replicate_succ, Array.replicate_zero, List.push_toArray, List.append_toArray, List.nil_append, List.cons_append]
  refine wpIn_wide.2 ?_
  go_upto_region 1 with (fail)
  obtain ⟨W, hW, hz, r1, r2, hB⟩ := two_boxes #[.pointer (some ⟨p, 0, none⟩)] #[.int .i64 k] 58 2 w
  rw [hW]
  clear hW
  have c2 := r1 0 _ rfl
  have c3 := r2 0 _ rfl
  rw [Nat.zero_add] at c2 c3
  have gp := hp.below hB hpl
  have hc := gp.g
  rw [Nat.zero_add] at hc
  have c0 := Grd_fld hc k hk
  have HB := Lib.hid hB
  have GP := Lib.hid gp
  have HV := Lib.hid hv
  have HG := Lib.hid hG
  clear hp hG hc r1 r2 hB gp hv
  have hk2 : (k : Int) < 64 := by omega
  have hpW : p < W.heap.size := by omega
  have e0 := fun x t => (Below.refl W.heap.size W).alloc (Nat.le_refl _) (.cells x t)
  have c1 : ∀ x t, (W.alloc (.cells x t)).cell? ⟨p, 66 + k, none⟩ = some (.float .f32 (G.g k)) := fun x t => ((e0 x t).cell (p := ⟨p, 66 + k, none⟩) hpW).trans c0
  clear e0
  go_region
  clear c1
  obtain ⟨V, hV⟩ : ∃ V, (W.alloc (.cells #[.float .f32 (G.g k)] 23)).drew = V := ⟨_, rfl⟩
  have hbV : Below W.heap.size W V := by rw [← hV]; exact ((Below.refl _ _).alloc (Nat.le_refl _) _).drew
  have zV : V.heap.size = W.heap.size + 1 := by rw [← hV]; exact World.size_alloc _ _
  have cS : V.cell? ⟨W.heap.size, 0, none⟩ = some (.float .f32 (G.g k)) := by rw [← hV]; exact cell_of_row _ _ 0 _ _ _ (heap_alloc_last W _)
  have fS : V.frozen? ⟨W.heap.size, 0, none⟩ = false := by rw [← hV]; have := (there_row (n := 1) (heap_alloc_last W (.cells #[.float .f32 (G.g k)] 23)) rfl 0 (by omega)).2; rwa [Nat.zero_add] at this
  rw [hV]
  clear hV
  have v2 := kc c2 (by omega) _ hbV
  have v3 := kc c3 (by omega) _ hbV
  have GV := Lib.hid (GP.out.below hbV (by omega))
  clear c0 c2 c3 GP
  go_wp2_with (go_at_call 72; refine (neighbours_any p k _).mono ?_; rintro e w' ⟨rfl, rfl⟩)
  obtain ⟨X, hX, zX, q1, q2, hbX⟩ := two_boxes #[.pointer (some ⟨p, 0, none⟩)] #[.int .i64 k] 58 2 V
  rw [hX]
  clear hX
  have b1 := q1 0 _ rfl
  have b2 := q2 0 _ rfl
  rw [Nat.zero_add, zV] at b1 b2
  have x2 := kc v2 (by omega) _ hbX
  have x3 := kc v3 (by omega) _ hbX
  have xS := kc cS (by omega) _ hbX
  have xF : X.frozen? ⟨W.heap.size, 0, none⟩ = false := (hbX.frozen (p := ⟨W.heap.size, 0, none⟩) (by simp; omega)).trans fS
  have GX := Lib.hid (GV.out.below hbX (by omega))
  have HBX := Lib.hid ((HB.out.trans (hbV.mono (by omega))).trans (hbX.mono (by omega)))
  clear v2 v3 cS fS GV HB q1 q2 hbV hbX
  rw [show w.heap.size + 1 + 1 = W.heap.size from hz.symm]
  refine (wpIn_wide (n := 6)).1 (wp_nbs G k hk HV.out HG.out 15 16 6 (W.heap.size + 1) (W.heap.size + 1 + 1) W.heap.size p hpW rfl b1 b2 GX.out (by omega)
    (fun pre W2 => ∃ b, W2.cell? ⟨W.heap.size, 0, none⟩ = some (.float .f32 b) ∧ W2.frozen? ⟨W.heap.size, 0, none⟩ = false ∧ num .f32 b = balL G k pre)
    (fun _ _ _ => False)
    (fun s A B h ⟨b, h1, h2, h3⟩ => ⟨b, h.cell h1, (h.frozen h1).trans h2, h3⟩) (fun _ _ _ _ _ h => h) ⟨G.g k, xS, xF, rfl⟩ ?assign ?body ?done ?stop)
  case assign =>
    intro l x W K hK
    simp only [List.setIfInBounds_toArray, List.set_cons_zero, List.set_cons_succ] at hK ⊢
    gi_wp2
    exact hK
  case body =>
    rintro l pre x W2 ⟨b, h1, h2, h3⟩ hB2 _ _ hj
    simp only [List.setIfInBounds_toArray, List.set_cons_zero, List.set_cons_succ]
    generalize hjj : nbN k (x.1 : Int) = j at hj ⊢
    have c2 := kc x2 (by omega) _ hB2.below
    have c3 := kc x3 (by omega) _ hB2.below
    have gp := GX.out.below hB2.below hpW
    refine wpIn_block ?_
    refine wpIn_region_calm (ops' := regOf Tryd.f54 4) [0, 1, 2, 3, 4, 5] [6] (.run 6 .fin) (Quiet W2) [(0, One (.float .f32 b)), (1, One (.pointer (some ⟨p, 0, none⟩))), (2, One (.int .i64 (k : Int))), (3, One (.int .i64 (j : Int))), (4, Numv .f32 (flowO G k j)), (5, Numv .f32 (fop .f32 .sub (balL G k (sds pre)) (flowO G k j)))] (by kernel_rfl) (by kernel_rfl) (by kernel_rfl) (by kernel_rfl) (by kernel_rfl) (by kernel_rfl) (by kernel_rfl) (by kernel_rfl) (by kernel_rfl) rfl ((Quiet.refl _).drewN 1) ?_
    refine calm_read (some 17) (by kernel_rfl) (by kernel_rfl) (by kernel_rfl) (fun w' hw' => load_cell (ty := 23) (x := .tmp 5) (b := W.heap.size) (o := 0) (by kernel_rfl) (by kernel_rfl) Tryd.underlying23 rfl (kq h1 w' hw')) ?_
    refine calm_read (some 18) (by kernel_rfl) (by kernel_rfl) (by kernel_rfl) (fun w' hw' => load_cell (ty := 58) (x := .tmp 2) (b := w.heap.size) (o := 0) (by kernel_rfl) (by kernel_rfl) Tryd.underlying58 rfl (kq c2 w' hw')) ?_
    refine calm_read (some 19) (by kernel_rfl) (by kernel_rfl) (by kernel_rfl) (fun w' hw' => load_cell (ty := 2) (x := .tmp 3) (b := (w.heap.size + 1)) (o := 0) (by kernel_rfl) (by kernel_rfl) Tryd.underlying2 rfl (kq c3 w' hw')) ?_
    refine calm_pure (some 20) (by kernel_rfl) (by kernel_rfl) (by kernel_rfl) (fun _ => by kernel_rfl) ?_
    refine calm_call (some 21) 50 #[.pointer (some ⟨p, 0, none⟩), .int .i64 (k : Int), .int .i64 (j : Int)] (numv_ne (flowO_ex G k j)) (by kernel_rfl) (by kernel_rfl) (by kernel_rfl) (fun _ => by kernel_rfl) (fun w' hw' => (implFlow_any G k j hk hj p w' (hw'.grd gp)).mono fun e w2 ⟨r, he, hr, hq⟩ => ⟨_, he, ⟨r, rfl, hr⟩, hw'.trans hq⟩) ?_
    rintro _ ⟨q, rfl, hq⟩
    refine calm_float (some 22) .f32 .sub 23 23 (.tmp 17) (.tmp 21) (b) (q) (by kernel_rfl) (by kernel_rfl) (by kernel_rfl) (by kernel_rfl) rfl (by kernel_rfl) (by kernel_rfl) (fun _ n h => h.drewN n) (fop_eq h3 hq) ?_
    intro r22 hr22
    refine calm_end fun w' hw' => plan_do none undef (w'.setCell ⟨W.heap.size, 0, none⟩ (.float .f32 r22)) (by kernel_rfl) (by kernel_rfl) (by kernel_rfl) (.inr ⟨store_f32 (x := .tmp 5) (y := .tmp 22) (by kernel_rfl) (by kernel_rfl) (by kernel_rfl) infoF32 (kq h1 w' hw') (by obtain ⟨n, rfl⟩ := hw'; exact h2), rfl⟩) trivial (plan_end (Clean.normal ?_))
    have k1 : KeepsOthers W2 (w'.setCell ⟨W.heap.size, 0, none⟩ (.float .f32 r22)) := KeepsOthers.trans (B := w') (KeepsOthers.of_below' (hw'.below _)) (KeepsOthers.setCell _ _ _)
    have k2 : KN W.heap.size (W.heap.size + 1) (W.heap.size + 1 + 1) W2 (w'.setCell ⟨W.heap.size, 0, none⟩ (.float .f32 r22)) := (KN.of_below (by have := hB2.below.size; omega) (hw'.below _)).trans (KN.setCell (Nat.le_refl _) (by show W.heap.size ≠ _; omega) (by show W.heap.size ≠ _; omega))
    refine ⟨k1, k2, ⟨r22, World.cell?_setCell_same' _ _ _ (by rw [kq h1 w' hw']; rfl), ?_, ?_⟩, hB2.trans k2⟩
    · rw [World.frozen?_setCell]; obtain ⟨n, rfl⟩ := hw'; exact h2
    · rw [sds_snoc, balL_snoc, hjj]; exact hr22
  case done =>
    rintro D W2 hD ⟨b, h1, h2, h3⟩ hB2 hK
    have HR := Lib.hid (h3.trans (balL_sides G k 4))
    have HB3 := Lib.hid (HBX.out.trans (hB2.below.mono (by omega)))
    have hwD : w.heap.size ≤ D := by omega
    clear h2 h3 x2 x3 xS xF b1 b2 hz zV zX hD
    go_wp2
    exact ret_marks hK (fun W' _ => by simp [results, Tryd.results54, go_sem] <;> rfl) (fun W' _ hb => ⟨b, rfl, HR.out, HB3.out.trans (hb _ hwD)⟩)
  case stop =>
    rintro D c pre W _ _ h _ _
    exact h.elim
end Go.Proofs.YtcfkkceidlpdkaaDoor
