/- Wells and their images: a range over the images, and the program's side. Condition: at most 2^20 wells. -/
import Derived.Test.YtdhgehmnjoclaaaWib
namespace Go.Proofs.Ytdhgehmnjoclaaa
open Go Go.RowKit Ieee Go.Shelf
set_option linter.unusedSimpArgs false
set_option linter.unusedVariables false
attribute [local go_sem] run_store_f32 Oper.semAt_some

/-- A range over the images, for every loop body. -/
theorem wp_im (L : List W3) (tw : Int) (river : Bool) (hL : L.length ≤ 1048576) (hV : L.all vW = true) (p : Addr) (c : Nat) {assign body : Code} {Q : Exit → Act → World → Prop} {T : Array Value} {df : List Deferred} {w : World} (gs p1 p2 v1 v2 B n₀ : Nat)
    (hg : (Act.eval { tmps := T, defers := df } (.tmp gs)) = .func (.func 22) #[] #[.pointer (some ⟨B, 0, none⟩), .pointer (some ⟨B + 1, 0, none⟩), .pointer (some ⟨B + 1 + 1, 0, none⟩)])
    (h1 : w.cell? ⟨B, 0, none⟩ = some (.slice (some p) L.length c)) (h2 : w.cell? ⟨B + 1, 0, none⟩ = some (.int .i64 tw)) (h3 : w.cell? ⟨B + 1 + 1, 0, none⟩ = some (.bool river)) (hp : WsAt w (some p) L) (hpn : p.block < n₀) (hle : n₀ ≤ w.heap.size)
    (I : List W3 → World → Prop) (Ix : Code → List W3 → World → Prop) (hI : ∀ s (A C : World) (row : Option Nat), A.grownBy C row → (∀ r, row = some r → ∃ o : Obj, A.heap[r]? = some o ∧ o.isCells = false) → I s A → I s C) (hIx : ∀ c s (A C : World) (row : Option Nat), A.grownBy C row → (∀ r, row = some r → ∃ o : Obj, A.heap[r]? = some o ∧ o.isCells = false) → Ix c s A → Ix c s C) (h0 : I [] w)
    (hassign : ∀ (l : Nat) (x : W3) (W : World) (K : Act → World → Prop), K { tmps := (((T.setIfInBounds p1 (.agg (imW x.1 x.2.1 x.2.2 tw river))).setIfInBounds p2 (.int .i64 (imC x.1 tw))).setIfInBounds v1 (.pointer (some ⟨W.heap.size, 0, none⟩))).setIfInBounds v2 (.int .i64 (imC x.1 tw)), defers := [] } (W.alloc (.cells (imW x.1 x.2.1 x.2.2 tw river) 35)) →
      assign.wpIn (Fence.wide.inRound l) 4 Try.prog (Exit.then K (fun _ _ _ => False)) { tmps := (T.setIfInBounds p1 (.agg (imW x.1 x.2.1 x.2.2 tw river))).setIfInBounds p2 (.int .i64 (imC x.1 tw)), defers := [] } W)
    (hbody : ∀ (l : Nat) (pre : List W3) (x : W3) (q : Nat) (W : World), I pre W → K3 n₀ B w W → W.heap[q]? = some (.cells (imW x.1 x.2.1 x.2.2 tw river) 35 (0, 0)) → pre.length < L.length →
      body.wpIn (Fence.wide.inRound l) 4 Try.prog (ownPostK (K3 n₀ B) (fun p W => I p W ∧ K3 n₀ B w W) (fun c p W => Ix c p W ∧ K3 n₀ B w W) (pre ++ [x]) W) { tmps := (((T.setIfInBounds p1 (.agg (imW x.1 x.2.1 x.2.2 tw river))).setIfInBounds p2 (.int .i64 (imC x.1 tw))).setIfInBounds v1 (.pointer (some ⟨q, 0, none⟩))).setIfInBounds v2 (.int .i64 (imC x.1 tw)), defers := [] } W)
    (hdone : ∀ (D : Nat) (W : World), w.heap.size ≤ D → I L W → K3 n₀ B w W → W.heap[D]? = some (.deferred (some [])) → Q .normal { tmps := T, defers := { target := .collected D, args := #[] } :: df } W)
    (hstop : ∀ (D : Nat) (e : Code) (pre : List W3) (W : World), w.heap.size ≤ D → pre <+: L → Ix e pre W → K3 n₀ B w W → W.heap[D]? = some (.deferred (some [])) → e.wpIn Fence.wide 6 Try.prog Q { tmps := T, defers := { target := .collected D, args := #[] } :: df } W) :
    (Code.rangeFunc (.tmp gs) #[p1, p2] assign body).wpIn Fence.wide 6 Try.prog Q { tmps := T, defers := df } w := by
  have hown : OwnFrom w.heap.size (fun (_ : List W3) W => K3 n₀ B w W) := fun s A C row hs hg hr =>
    hs.grown (Nat.le_trans hle hs.below.size) hg (fun r e => ⟨Nat.le_trans hle (hr r e).1, (hr r e).2⟩)
  refine wpIn_rangeFunc_ownH rfl (by omega) (gf := 22) (lb := #[.pointer (some ⟨B, 0, none⟩), .pointer (some ⟨B + 1, 0, none⟩), .pointer (some ⟨B + 1 + 1, 0, none⟩)]) hg trivial (enters_of Try.func22 (by kernel_rfl) rfl)
    (im_stops L tw river hL hV p c B n₀ 5 (by omega) w h1 h2 h3 hp hpn hle) (fun h k => h.trans k) (K3.book hle) (Below.refl _ _) (fun _ => rfl)
    (fun p W => I p W ∧ K3 n₀ B w W) (fun c p W => Ix c p W ∧ K3 n₀ B w W)
    (OwnFrom.and (Own.from (I := fun p W => I p W) (fun s A C row hs hg hr => hI _ _ _ row hg hr hs) _) hown)
    (fun c => OwnFrom.and (Own.from (I := fun p W => Ix c p W) (fun s A C row hs hg hr => hIx c _ _ _ row hg hr hs) _) hown)
    ⟨h0, K3.refl _ _ _⟩
    (fun x a' W => ∃ q, a' = { tmps := (((T.setIfInBounds p1 (.agg (imW x.1 x.2.1 x.2.2 tw river))).setIfInBounds p2 (.int .i64 (imC x.1 tw))).setIfInBounds v1 (.pointer (some ⟨q, 0, none⟩))).setIfInBounds v2 (.int .i64 (imC x.1 tw)), defers := [] } ∧ W.heap[q]? = some (.cells (imW x.1 x.2.1 x.2.2 tw river) 35 (0, 0)))
    ?ax ?asg ?bod ?don ?sto
  case ax =>
    rintro x a' _ A C row ⟨q, ha, hq⟩ hg hr
    refine ⟨q, ha, (hg.block q (Array.getElem?_eq_some_iff.1 hq).1 (fun e => ?_)).trans hq⟩
    obtain ⟨o, ho, hc⟩ := (hr q e.symm).2
    rw [hq] at ho; cases ho; cases hc
  case asg =>
    intro l pre x W K hi hK
    have hb := belowMore' (Below.refl W.heap.size W) (.cells (imW x.1 x.2.1 x.2.2 tw river) 35)
    have hsz : n₀ ≤ W.heap.size := Nat.le_trans hle hi.2.below.size
    have := hassign l x W K (hK _ _ ((KeepsOthers.alloc W _).from _) (K3.of_below hsz hb) ⟨hI _ _ _ none (grown_of_below' hb) (fun _ e => by cases e) hi.1, hi.2.trans (K3.of_below hsz hb)⟩ ⟨W.heap.size, rfl, heap_alloc_last W _⟩)
    simpa [encI] using this
  case bod =>
    rintro l pre x a' W _ _ hi ⟨q, rfl, hq⟩ hl
    exact wpIn_mono (hbody l pre x q W hi.1 hi.2 hq hl) ownPostG_of_ownPostK
  case don => exact fun D ys W hD hys h hK => hdone D W hD (by have h1 := h.1; rwa [show ys = L from hys] at h1) h.2 hK
  case sto => exact fun D c pre W hD hp h hK => hstop D c _ W hD hp h.1 h.2 hK

theorem box_grown {A W : World} {row : Option Nat} {b : Nat} {t : TypeId} {v : Value} (h : Boxed A b t v) (hg : A.grownBy W row) (hr : ∀ r, row = some r → ∃ o : Obj, A.heap[r]? = some o ∧ o.isCells = false) : Boxed W b t v :=
  h.kept hg fun e => by
    obtain ⟨o, ho, hc⟩ := hr b e.symm
    rw [show A.heap[b]? = _ from h] at ho; cases ho; cases hc
theorem wrow_grown {A W : World} {row : Option Nat} {g cap : Nat} {xs : List W3} (h : WRow A g cap xs) (hg : A.grownBy W row) (hr : ∀ r, row = some r → ∃ o : Obj, A.heap[r]? = some o ∧ o.isCells = false) : WRow W g cap xs :=
  h.kept (hg.block g h.lt fun e' => by
    obtain ⟨o, ho, hc⟩ := hr g e'.symm
    obtain ⟨cur, hcur, _⟩ := h
    rw [hcur] at ho; cases ho; cases hc)
theorem box_keep {A W : World} {b : Nat} {t : TypeId} {v : Value} (h : Boxed A b t v) (hb : Below A.heap.size A W) : Boxed W b t v := box_grown h (grown_of_below' hb) (fun _ e => by cases e)
/-- What the loop holds: the list so far in its box, the results as they were. -/
structure WiI (n : Nat) (L : List W3) (tw : Int) (river : Bool) (b g : Nat) (pre : List W3) (W : World) : Prop where
  all : Boxed W (g + 1) 24 (.slice (some ⟨g, 0, none⟩) (n + pre.length) (2 * n))
  row : WRow W g (2 * n) (L ++ pre.map (imE tw river))
  r1 : Boxed W b 24 (.slice none 0 0)
  r2 : Boxed W (b + 1) 2 (.int .i64 0)
  ok : ∀ e ∈ pre, imG tw e = true
/-- How it may be left in the middle. -/
def WiX (tw : Int) (b : Nat) (c : Code) (pre : List W3) (W : World) : Prop := c = .ret ∧ Boxed W b 24 (.slice none 0 0) ∧ Boxed W (b + 1) 2 (.int .i64 2) ∧ ∃ e ∈ pre, imG tw e = false
theorem WiI.grown {n : Nat} {L : List W3} {tw : Int} {river : Bool} {b g : Nat} {pre : List W3} {A W : World} {row : Option Nat} (h : WiI n L tw river b g pre A) (hg : A.grownBy W row) (hr : ∀ r, row = some r → ∃ o : Obj, A.heap[r]? = some o ∧ o.isCells = false) : WiI n L tw river b g pre W :=
  ⟨box_grown h.all hg hr, wrow_grown h.row hg hr, box_grown h.r1 hg hr, box_grown h.r2 hg hr, h.ok⟩
theorem WiX.grown {tw : Int} {b : Nat} {c : Code} {pre : List W3} {A W : World} {row : Option Nat} (h : WiX tw b c pre A) (hg : A.grownBy W row) (hr : ∀ r, row = some r → ∃ o : Obj, A.heap[r]? = some o ∧ o.isCells = false) : WiX tw b c pre W :=
  ⟨h.1, box_grown h.2.1 hg hr, box_grown h.2.2.1 hg hr, h.2.2.2⟩
theorem WiI.keep {n : Nat} {L : List W3} {tw : Int} {river : Bool} {b g : Nat} {pre : List W3} {A W : World} (h : WiI n L tw river b g pre A) (hb : Below A.heap.size A W) : WiI n L tw river b g pre W := h.grown (grown_of_below' hb) (fun _ e => by cases e)
theorem wiK_bad' {L : List W3} {tw : Int} (h : L.all vW = false) : wiK L tw = 1 := by
  unfold wiK
  rw [if_pos h]
theorem make2 (n : Nat) (hn : n ≤ 6) : ∃ C : Array Value, C.size = 2 * n * 3 ∧ ∀ w, (Instr.makeSlice 24 (.int .i64 0) (.int .i64 (2 * (n : Int)))).run Try.prog w = .ok (.slice (some ⟨w.heap.size, 0, none⟩) 0 (2 * n)) (w.alloc (.cells C 35)) := by
  obtain ⟨i, hi, hz, hs, hb⟩ := info_parts (P := Try.prog) (e := 35) (z := .agg (We 0 0 0)) (size := 3) (bytes := 8) (by kernel_rfl)
  refine ⟨madeCells (Value.cells (.agg (We 0 0 0))) (2 * n * i.size), by rw [size_madeCells, hs], fun w => ?_⟩
  have hr := run_make (P := Try.prog) w 24 35 i (.agg (We 0 0 0)) Try.underlying24 hi hz .i64 .i64 0 (2 * (n : Int)) (by omega) (by omega) (by rw [hb]; omega) (by omega)
  have e1 : (2 * (n : Int)).toNat = 2 * n := by omega
  rw [e1] at hr
  exact hr
theorem im_boxes (Y : World) (p : Addr) (n c : Nat) (tw : Int) (river : Bool) : ∃ Z, ((Y.alloc (.cells #[.slice (some p) n c] 24)).alloc (.cells #[.int .i64 tw] 2)).alloc (.cells #[.bool river] 4) = Z ∧ Z.heap.size = Y.heap.size + 1 + 1 + 1 ∧ Z.cell? ⟨Y.heap.size, 0, none⟩ = some (.slice (some p) n c) ∧ Z.cell? ⟨Y.heap.size + 1, 0, none⟩ = some (.int .i64 tw) ∧ Z.cell? ⟨Y.heap.size + 1 + 1, 0, none⟩ = some (.bool river) ∧ Below Y.heap.size Y Z := by
  have x1 := ((Boxed.new Y 24 (.slice (some p) n c)).alloc (.cells #[.int .i64 tw] 2)).alloc (.cells #[.bool river] 4)
  have x2 := (Boxed.new (Y.alloc (.cells #[.slice (some p) n c] 24)) 2 (.int .i64 tw)).alloc (.cells #[.bool river] 4)
  have x3 := Boxed.new ((Y.alloc (.cells #[.slice (some p) n c] 24)).alloc (.cells #[.int .i64 tw] 2)) 4 (.bool river)
  simp only [World.size_alloc] at x2 x3
  exact ⟨_, rfl, by simp, x1.cell, x2.cell, x3.cell, belowMore' (belowMore' (belowMore' (Below.refl _ _) _) _) _⟩
theorem wi_boxes (w : World) : ∃ X, (w.alloc (.cells #[.slice none 0 0] 24)).alloc (.cells #[.int .i64 0] 2) = X ∧ X.heap.size = w.heap.size + 1 + 1 ∧ Boxed X w.heap.size 24 (.slice none 0 0) ∧ Boxed X (w.heap.size + 1) 2 (.int .i64 0) ∧ Below w.heap.size w X := by
  refine ⟨_, rfl, by simp, (Boxed.new w _ _).alloc _, ?_, belowMore' (belowMore' (Below.refl _ _) _) _⟩
  have := Boxed.new (w.alloc (.cells #[.slice none 0 0] 24)) 2 (.int .i64 0)
  rwa [World.size_alloc] at this
set_option maxRecDepth 100000 in
theorem results_wi (tmps : Array Value) (w : World) (b1 b2 : Nat) (v : Value) (n : Int) (h4 : tmps.getD 6 undef = .pointer (some ⟨b1, 0, none⟩)) (h5 : tmps.getD 7 undef = .pointer (some ⟨b2, 0, none⟩)) (c1 : w.cell? ⟨b1, 0, none⟩ = some v) (c2 : w.cell? ⟨b2, 0, none⟩ = some (.int .i64 n)) : (results Try.f7 tmps).run Try.prog w = .ok (.tuple #[v, .int .i64 n]) w := by
  have h4' : tmps[6]?.getD undef = .pointer (some ⟨b1, 0, none⟩) := by simpa using h4
  have h5' : tmps[7]?.getD undef = .pointer (some ⟨b2, 0, none⟩) := by simpa using h5
  simp [results, Try.results7, h4', h5', asAddr, isAgg, run_underlying Try.underlying24, run_underlying Try.underlying2, go_sem, c1, c2]

theorem wi_set {V : World} {b : Nat} {v : Value} {n : Int} {u : Value} {m : Int} (h1 : Boxed V b 24 u) (h2 : Boxed V (b + 1) 2 (.int .i64 m)) : Boxed ((V.setCell ⟨b, 0, none⟩ v).setCell ⟨b + 1, 0, none⟩ (.int .i64 n)) b 24 v ∧ Boxed ((V.setCell ⟨b, 0, none⟩ v).setCell ⟨b + 1, 0, none⟩ (.int .i64 n)) (b + 1) 2 (.int .i64 n) ∧ (∀ m, m ≤ b → Below m V ((V.setCell ⟨b, 0, none⟩ v).setCell ⟨b + 1, 0, none⟩ (.int .i64 n))) :=
  ⟨(h1.set v).kept (grownBy_setCell' _ _ _) (fun e => by have := Option.some.inj e; omega), (h2.kept (grownBy_setCell' V b v) (fun e => by have := Option.some.inj e; omega)).set (.int .i64 n), fun m hm => ((Below.refl _ _).setCell hm v).setCell (p := ⟨b + 1, 0, none⟩) (by show m ≤ b + 1; omega) _⟩
set_option maxRecDepth 100000 in
set_option maxHeartbeats 4000000 in
theorem implWi_any (b o c : Nat) (L : List W3) (tw : Int) (river : Bool) (hL : L.length ≤ 1048576) (hO : ∀ e ∈ L, okW3 e) (w : World) (hp : WsAt w (some ⟨b, o, none⟩) L) (hbw : b < w.heap.size) :
    Calls Try.prog 7 #[.slice (some ⟨b, o, none⟩) L.length c, .int .i64 tw, .bool river] w fun e w' => WiP L tw river w e w' := by
  have P0 := Lib.hid hp
  have T := fun V hV => areW_any ⟨b, o, none⟩ c L hL hO V hV
  obtain ⟨n, hn⟩ : ∃ n, L.length = n := ⟨_, rfl⟩
  have HN := Lib.hid hn
  rw [hn] at hL T ⊢
  clear hp hn hO
  obtain ⟨R, hR⟩ : ∃ R, R = fun (e : Ending) (w' : World) => WiP L tw river w e w' := ⟨_, rfl⟩
  rw [← hR]
  have HR := Lib.hid hR
  clear hR
  refine (callsIn_wide (n := 6)).1 (callsIn_of_wp_marks Try.func7 rfl trivial ?_ rfl)
  simp only [Try.ntmps7, List.size_toArray, List.length_cons, List.length_nil, Nat.reduceAdd, Nat.reduceSub, Array.replicate_succ, Array.replicate_zero, List.push_toArray, List.append_toArray, List.nil_append, List.cons_append]
  refine wpIn_wide.2 ?_
  go_upto_region 1 with (fail)
  obtain ⟨X, hX, zX, x1, x2, bX⟩ := wi_boxes w
  rw [hX]
  clear hX
  have PX := Lib.hid (P0.out.keep bX)
  have HB := Lib.hid bX
  have HX1 := Lib.hid x1
  have HX2 := Lib.hid x2
  clear x1 x2 bX
  cases hv : L.all vW
  · have HV := Lib.hid hv
    clear hv
    go_wp2_with (go_at_call 14; refine (T _ PX.out).mono ?_; rintro x V1 ⟨rfl, hq1⟩; rw [HV.out]; have Q1 := Lib.hid hq1; have c6 := (box_keep HX1.out hq1).cell; have f6 := (box_keep HX1.out hq1).frozen; have c7 := (box_keep HX2.out hq1).cell; have f7 := (box_keep HX2.out hq1).frozen; clear hq1)
    have HK := wiK_bad' (tw := tw) HV.out
    obtain ⟨z1, z2, z3⟩ := wi_set (v := .slice none 0 0) (n := 1) (box_keep HX1.out Q1.out) (box_keep HX2.out Q1.out)
    refine ⟨_, results_wi _ _ _ _ _ _ rfl rfl z1.cell z2.cell, ?_⟩
    rw [HR.out]
    exact WiP.no HK (by omega) ((HB.out.trans (Q1.out.mono (by omega))).trans (z3 _ (Nat.le_refl _)))
  · have HV := Lib.hid hv
    clear hv
    by_cases h6 : 6 < n
    · have h6i : (12 : Int) < 2 * n := by omega
      go_wp2_with (go_at_call 14; refine (T _ PX.out).mono ?_; rintro x V1 ⟨rfl, hq1⟩; rw [HV.out]; have Q1 := Lib.hid hq1; have c6 := (box_keep HX1.out hq1).cell; have f6 := (box_keep HX1.out hq1).frozen; have c7 := (box_keep HX2.out hq1).cell; have f7 := (box_keep HX2.out hq1).frozen; clear hq1)
      have HK := wiK_many (tw := tw) HV.out (by rw [HN.out]; exact h6)
      obtain ⟨z1, z2, z3⟩ := wi_set (v := .slice none 0 0) (n := 3) (box_keep HX1.out Q1.out) (box_keep HX2.out Q1.out)
      refine ⟨_, results_wi _ _ _ _ _ _ rfl rfl z1.cell z2.cell, ?_⟩
      rw [HR.out]
      exact WiP.no HK (by omega) ((HB.out.trans (Q1.out.mono (by omega))).trans (z3 _ (Nat.le_refl _)))
    · have h6i : ¬ (12 : Int) < 2 * n := by omega
      obtain ⟨C, hC, hmk⟩ := make2 n (by omega)
      go_upto_region 6 with (go_at_call 14; refine (T _ PX.out).mono ?_; rintro x V1 ⟨rfl, hq1⟩; rw [HV.out]; have Q1 := Lib.hid hq1; clear hq1)
      have hb1 := Q1.out
      obtain ⟨g, hg⟩ : ∃ g, V1.heap.size = g := ⟨_, rfl⟩
      have hgw : w.heap.size + 1 + 1 ≤ g := by have := hb1.size; omega
      have r0 := wrow_alloc (wrow_made hC (by unfold maxLen; omega) V1) (.cells #[.slice (some ⟨V1.heap.size, 0, none⟩) 0 (2 * n)] 24)
      have b8 := Boxed.new (V1.alloc (.cells C 35)) 24 (.slice (some ⟨V1.heap.size, 0, none⟩) 0 (2 * n))
      have b6 := ((box_keep HX1.out hb1).alloc (.cells C 35)).alloc (.cells #[.slice (some ⟨V1.heap.size, 0, none⟩) 0 (2 * n)] 24)
      have b7 := ((box_keep HX2.out hb1).alloc (.cells C 35)).alloc (.cells #[.slice (some ⟨V1.heap.size, 0, none⟩) 0 (2 * n)] 24)
      have bW := belowMore' (belowMore' (HB.out.trans (hb1.mono (by omega))) (.cells C 35)) (.cells #[.slice (some ⟨V1.heap.size, 0, none⟩) 0 (2 * n)] 24)
      have zW : ((V1.alloc (.cells C 35)).alloc (.cells #[.slice (some ⟨V1.heap.size, 0, none⟩) 0 (2 * n)] 24)).heap.size = g + 1 + 1 := by simp [hg]
      rw [World.size_alloc] at b8
      obtain ⟨W2, hW2⟩ : ∃ W2, (V1.alloc (.cells C 35)).alloc (.cells #[.slice (some ⟨V1.heap.size, 0, none⟩) 0 (2 * n)] 24) = W2 := ⟨_, rfl⟩
      rw [hW2] at r0 b8 b6 b7 bW zW ⊢
      simp only [hg] at r0 b8 ⊢
      have c8 := b8.cell
      have R0 := Lib.hid r0
      have B8 := Lib.hid b8
      have B6 := Lib.hid b6
      have B7 := Lib.hid b7
      have BW := Lib.hid bW
      have ZW := Lib.hid zW
      have hn6 : n ≤ 6 := by omega
      clear hb1 r0 b8 b6 b7 bW zW hW2 hmk hg Q1
      go_upto_region 7 with (refine wpList_appW (M := L) rfl _ _ rfl R0.out rfl HN.out (P0.out.keep BW.out) (by simp; omega) rfl rfl ?_; intro g' cap' w1 h1 h2 _ h4; obtain ⟨rfl, rfl⟩ := h4 (by simp; omega); simp only [List.nil_append, Nat.zero_add] at h1 ⊢; have G2 := Lib.hid h2; have H1 := Lib.hid h1; have b8 := B8.out.kept h2 (fun e => by have := Option.some.inj e; omega); have c8 := b8.cell; have f8 := b8.frozen; clear h1 h2 h4 b8)
      have h2 := G2.out
      have hzw := ZW.out
      have hz2 : g' + 1 + 1 ≤ w1.heap.size := by have := h2.size; omega
      have s8 := grownBy_setCell' w1 (g' + 1) (.slice (some ⟨g', 0, none⟩) n (2 * n))
      have y8 := (B8.out.kept h2 (fun e => by have := Option.some.inj e; omega)).set (.slice (some ⟨g', 0, none⟩) n (2 * n))
      have y6 := (B6.out.kept h2 (fun e => by have := Option.some.inj e; omega)).kept s8 (fun e => by have := Option.some.inj e; omega)
      have y7 := (B7.out.kept h2 (fun e => by have := Option.some.inj e; omega)).kept s8 (fun e => by have := Option.some.inj e; omega)
      have yr := H1.out.kept (s8.block g' H1.out.lt (fun e => by have := Option.some.inj e; omega))
      have bY := (BW.out.trans (grown_below h2 (by omega) (by omega))).setCell (p := ⟨g' + 1, 0, none⟩) (by show w.heap.size ≤ g' + 1; omega) (.slice (some ⟨g', 0, none⟩) n (2 * n))
      have zY : g' + 1 + 1 ≤ (w1.setCell ⟨g' + 1, 0, none⟩ (.slice (some ⟨g', 0, none⟩) n (2 * n))).heap.size := Nat.le_trans hz2 s8.size
      obtain ⟨Y, hY⟩ : ∃ Y, w1.setCell ⟨g' + 1, 0, none⟩ (.slice (some ⟨g', 0, none⟩) n (2 * n)) = Y := ⟨_, rfl⟩
      rw [hY] at y8 y6 y7 yr bY zY ⊢
      have HI := Lib.hid (show WiI n L tw river w.heap.size g' [] Y from ⟨y8, by simpa using yr, y6, y7, fun e he => by cases he⟩)
      have HBY := Lib.hid bY
      clear hY y8 y6 y7 yr bY s8 h2 hzw c8 f8 H1 G2 B8 B6 B7 BW ZW R0 hz2
      go_wp2_with (go_at_call 15; refine (imagesOf_any ⟨b, o, none⟩ n c tw river _).mono ?_; rintro e w' ⟨rfl, rfl⟩)
      obtain ⟨Z, hZ, zZ, z1, z2, z3, bZ⟩ := im_boxes Y ⟨b, o, none⟩ n c tw river
      rw [hZ]
      clear hZ
      have hYw := HBY.out.size
      have HZB := Lib.hid (HBY.out.trans (bZ.mono hYw))
      have HIZ := Lib.hid (HI.out.keep bZ)
      clear bZ HI
      refine (wpIn_wide (n := 6)).1 (wp_im L tw river (by rw [HN.out]; exact hL) HV.out ⟨b, o, none⟩ c 28 29 30 9 10 Y.heap.size w.heap.size rfl (by rw [HN.out]; exact z1) z2 z3 (P0.out.keep HZB.out) hbw (by omega)
        (fun pre W2 => WiI n L tw river w.heap.size g' pre W2) (fun c pre W2 => WiX tw w.heap.size c pre W2)
        (fun s A B row hg hr h => h.grown hg hr) (fun c s A B row hg hr h => h.grown hg hr) HIZ.out ?assign ?body ?done ?stop)
      case assign =>
        intro l x W K hK
        obtain ⟨i1, i2, i3, hi⟩ := imW_is x.1 x.2.1 x.2.2 tw river
        rw [hi] at hK ⊢
        simp only [We, List.setIfInBounds_toArray, List.set_cons_zero, List.set_cons_succ] at hK ⊢
        gi_wp2
        exact hK
      case body =>
        rintro l pre x q W hI hK hq hlen
        have hWw : w.heap.size ≤ W.heap.size := Nat.le_trans (by omega) hK.below.size
        have HK0 := Lib.hid hK
        have HI := Lib.hid hI
        rw [HN.out] at hlen
        cases hi : imG tw x
        · obtain ⟨a1, a2⟩ := im_no (river := river) hi
          rw [a2] at hq
          rw [a1, a2]
          have HIX := Lib.hid hi
          have c6 := hI.r1.cell
          have f6 := hI.r1.frozen
          have c7 := hI.r2.cell
          have f7 := hI.r2.frozen
          simp only [We, List.setIfInBounds_toArray, List.set_cons_zero, List.set_cons_succ]
          clear hq a1 a2 hi hI
          gi_wp2
          obtain ⟨z1, z2, _⟩ := wi_set (v := .slice none 0 0) (n := 2) HI.out.r1 HI.out.r2
          have k1 : K3 w.heap.size Y.heap.size W (W.setCell ⟨w.heap.size, 0, none⟩ (.slice none 0 0)) := K3.of_row (grownBy_setCell' _ _ _) (Nat.le_refl _) hWw (.inl (by omega))
          have k2 : K3 w.heap.size Y.heap.size (W.setCell ⟨w.heap.size, 0, none⟩ (.slice none 0 0)) ((W.setCell ⟨w.heap.size, 0, none⟩ (.slice none 0 0)).setCell ⟨w.heap.size + 1, 0, none⟩ (.int .i64 2)) := K3.of_row (grownBy_setCell' _ _ _) (by omega) (Nat.le_trans hWw k1.below.size) (.inl (by omega))
          exact ⟨(KeepsOthers.setCell _ _ _).trans (KeepsOthers.setCell _ _ _), ⟨rfl, z1, z2, x, by simp, HIX.out⟩, (HK0.out.trans k1).trans k2⟩
        · obtain ⟨a1, a2⟩ := im_yes (river := river) hi
          rw [a2] at hq
          rw [a1, a2]
          have HIX := Lib.hid hi
          have c8 := hI.all.cell
          have f8 := hI.all.frozen
          have d0 := cell_of_row W q 0 _ _ _ hq
          have d1 := cell_of_row W q 1 _ _ _ hq
          have d2 := cell_of_row W q 2 _ _ _ hq
          have HLQ := Lib.hid (show (L ++ pre.map (imE tw river)).length = n + pre.length by simp [HN.out])
          have hgW := hI.all.lt
          simp only [We, List.getElem?_toArray, List.getElem?_cons_zero, List.getElem?_cons_succ] at d0 d1 d2
          simp only [We, List.setIfInBounds_toArray, List.set_cons_zero, List.set_cons_succ]
          obtain ⟨m, hm⟩ : ∃ m, pre.length = m := ⟨_, rfl⟩
          have HM := Lib.hid hm
          rw [hm] at c8 hlen HLQ
          clear hq a1 a2 hi hI hm
          gi_wp2_with (refine wpListIn_appW (M := [imE tw river x]) (g := g') (cap := 2 * n) (n := n + m) (m := 1) (c := 1) (xs := L ++ pre.map (imE tw river)) (ap := ⟨W.heap.size, 0, none⟩) rfl (.tmp 34) (.tmp 36) rfl (show WRow (W.alloc (.cells #[.int .i8 (tw - x.1), .int .i8 x.2.1, .float .f32 (imR x.2.2 river)] 35)) g' (2 * n) (L ++ pre.map (imE tw river)) from wrow_alloc HI.out.row _) HLQ.out rfl (show WsAt (W.alloc (.cells #[.int .i8 (tw - x.1), .int .i8 x.2.1, .float .f32 (imR x.2.2 river)] 35)) (some ⟨W.heap.size, 0, none⟩) [imE tw river x] from wsAt_one W (imE tw river x)) (by omega) rfl rfl ?_; intro g2 cap2 w3 h1 h2 _ h4; obtain ⟨rfl, rfl⟩ := h4 (by omega); have H1 := Lib.hid h1; have H2 := Lib.hid h2; have b8 := (HI.out.all.alloc (.cells #[.int .i8 (tw - x.1), .int .i8 x.2.1, .float .f32 (imR x.2.2 river)] 35)).kept h2 (fun e => by have := Option.some.inj e; omega); have c8' := b8.cell; have f8' := b8.frozen; have B8 := Lib.hid b8; clear h1 h2 h4 b8 c8 f8)
          have h2 := H2.out
          have hAz : w.heap.size ≤ (W.alloc (.cells #[.int .i8 (tw - x.1), .int .i8 x.2.1, .float .f32 (imR x.2.2 river)] 35)).heap.size := by simp; omega
          have s8 := grownBy_setCell' w3 (g2 + 1) (.slice (some ⟨g2, 0, none⟩) (n + m + 1) (2 * n))
          have k1 : K3 w.heap.size Y.heap.size W (W.alloc (.cells #[.int .i8 (tw - x.1), .int .i8 x.2.1, .float .f32 (imR x.2.2 river)] 35)) := K3.of_below hWw (belowMore' (Below.refl _ _) _)
          have k2 := K3.of_row (n₀ := w.heap.size) (B := Y.heap.size) h2 (by omega) hAz (.inl (by omega))
          have k3 := K3.of_row (n₀ := w.heap.size) (B := Y.heap.size) s8 (by omega) (Nat.le_trans hAz h2.size) (.inl (by omega))
          have ko3 := KeepsOthers.of_grownBy h2 fun j o ej hj => by
            obtain ⟨cur, hcur, _⟩ := wrow_alloc HI.out.row (.cells #[.int .i8 (tw - x.1), .int .i8 x.2.1, .float .f32 (imR x.2.2 river)] 35)
            have e := Option.some.inj ej
            subst e
            rw [hcur] at hj
            cases hj; rfl
          have e1 : n + (pre ++ [x]).length = n + m + 1 := by rw [List.length_append, HM.out]; rfl
          have e2 : L ++ (pre ++ [x]).map (imE tw river) = L ++ pre.map (imE tw river) ++ [imE tw river x] := by simp
          refine ⟨((KeepsOthers.alloc W _).trans ko3).trans (KeepsOthers.setCell _ _ _), (k1.trans k2).trans k3, ⟨by rw [e1]; exact B8.out.set _, by rw [e2]; exact H1.out.kept (s8.block g2 H1.out.lt (fun e => by have := Option.some.inj e; omega)), ?_, ?_, fun e he => ?_⟩, HK0.out.trans ((k1.trans k2).trans k3)⟩
          · exact ((HI.out.r1.alloc _).kept h2 (fun e => by have := Option.some.inj e; omega)).kept s8 (fun e => by have := Option.some.inj e; omega)
          · exact ((HI.out.r2.alloc _).kept h2 (fun e => by have := Option.some.inj e; omega)).kept s8 (fun e => by have := Option.some.inj e; omega)
          · rw [List.mem_append, List.mem_singleton] at he
            rcases he with he | rfl
            · exact HI.out.ok e he
            · exact HIX.out
      case done =>
        rintro D W hD hI hK hDD
        have k8 := hI.all.cell
        have HI := Lib.hid hI
        have hlW : L.length = n := HN.out
        rw [hlW] at k8
        have c6 := hI.r1.cell
        have f6 := hI.r1.frozen
        have c7 := hI.r2.cell
        have f7 := hI.r2.frozen
        clear hI
        go_wp2
        obtain ⟨z1, z2, zB⟩ := wi_set (v := .slice (some ⟨g', 0, none⟩) (n + n) (2 * n)) (n := 0) HI.out.r1 HI.out.r2
        have g1 := grownBy_setCell' W w.heap.size (.slice (some ⟨g', 0, none⟩) (n + n) (2 * n))
        have g2 := grownBy_setCell' (W.setCell ⟨w.heap.size, 0, none⟩ (.slice (some ⟨g', 0, none⟩) (n + n) (2 * n))) (w.heap.size + 1) (.int .i64 0)
        have zr := HI.out.row.kept (g1.block g' HI.out.row.lt (fun e => by have := Option.some.inj e; omega))
        have zr2 := zr.kept (g2.block g' zr.lt (fun e => by have := Option.some.inj e; omega))
        have hDl : D < W.heap.size := (Array.getElem?_eq_some_iff.1 hDD).1
        have hK1 := (g1.block D hDl (fun e => by have := Option.some.inj e; omega)).trans hDD
        have hK2 := (g2.block D (Array.getElem?_eq_some_iff.1 hK1).1 (fun e => by have := Option.some.inj e; omega)).trans hK1
        have HBW := (HZB.out.trans hK.below).trans (zB _ (Nat.le_refl _))
        exact ret_marks hK2 (fun W' hc => results_wi _ _ _ _ _ _ rfl rfl (hc.cell z1.cell) (hc.cell z2.cell)) (fun W' hc hb => by
          rw [HR.out]
          exact WiP.yes (wiK_ok HV.out (by rw [HN.out]; omega) (List.all_eq_true.2 HI.out.ok)) (by rw [HN.out]) (zr2.below (hb D (Nat.le_refl _)) (by omega)) (by omega) (HBW.trans (hb _ (by omega))))
      case stop =>
        rintro D e pre W hD hpre ⟨rfl, r1, r2, e0, he0, hie⟩ hK hDD
        gi_wp2
        obtain ⟨j, hj⟩ := List.getElem?_of_mem (hpre.subset he0)
        have HK := wiK_far (tw := tw) HV.out (by rw [HN.out]; omega) hj hie
        exact ret_marks hDD (fun W' hc => results_wi _ _ _ _ _ _ rfl rfl (hc.cell r1.cell) (hc.cell r2.cell)) (fun W' hc hb => by
          rw [HR.out]
          exact WiP.no HK (by omega) ((HZB.out.trans hK.below).trans (hb _ (by omega))))
end Go.Proofs.Ytdhgehmnjoclaaa
