/- The worst reading, of both sides. Condition (the program's): the sentinels lie where they are laid. -/
import Derived.Test.YthacifhphoaioaaDoorFlR
import Derived.Test.YthacifhphoaioaaDoorMisC
namespace Go.Proofs.YthacifhphoaioaaDoor
open Go Go.RowKit Ieee
set_option linter.unusedSimpArgs false
set_option linter.unusedVariables false
attribute [local go_sem] run_store_f32

/-- The difference of a reading; its size with a minus. -/
def djO (T S R : Nat) (X Y x y : Int) (L : List R2) (j : Nat) : Option Nat := match L[j]? with | some e => dfO e.2 (drwV T S R (x - X) (y - Y) e.1) | none => none
def mjO (T S R : Nat) (X Y x y : Int) (L : List R2) (j : Nat) : Option Nat := negO (sizeO (djO T S R X Y x y L j))
theorem djO_at {T S R : Nat} {X Y x y : Int} {L : List R2} {j : Nat} {e : R2} (he : L[j]? = some e) : djO T S R X Y x y L j = dfO e.2 (drwV T S R (x - X) (y - Y) e.1) := by unfold djO; rw [he]
theorem index_rd0 {op : Oper} {a : Act} {x y : Operand} {T : TypeId} {b o n c : Nat} (ho : op.op = .indexAddr T x y) (hT : T = 31 ∨ T = 46) (hx : a.eval x = .slice (some ⟨b, o, none⟩) n c) (hy : a.eval y = .int .i64 0) (hk : 0 < n) (w : World) :
    (execOp a.eval op).run Tryd.prog w = .ok (.value (.pointer (some ⟨b, o, none⟩))) w := by
  have h := index_rd (k := 0) ho hT hx hy hk w
  rwa [Nat.zero_mul, Nat.add_zero] at h
def worK (b : Bool) (n : Nat) : Option Nat := if b = true then (if n = 0 then some 4 else none) else some 0
theorem worK_lt {b : Bool} {n : Nat} : ∀ i, worK b n = some i → i < 5 := by
  intro i h
  unfold worK at h
  split at h
  · split at h
    · cases h; decide
    · cases h
  · cases h; decide
def worI (b : Bool) (n i : Nat) : Nat := if b = true then (if n = 0 then 0 else i) else 0
def worO (b : Bool) (n : Nat) (o : Option Nat) : Option Nat := if b = true then (if n = 0 then num .f32 0 else o) else num .f32 0
/-- What WorstReading answers, its code from the error's number. -/
def WorV (T S R : Nat) (X Y x y : Int) (L : List R2) (e : Ending) : Prop := ∃ r, e = .returned (.tuple #[.int .i64 (worI (askB T S X Y R x y L) L.length (flI (mjO T S R X Y x y L) L.length) : Nat), .float .f32 r, .int .i64 (codeE (worK (askB T S X Y R x y L) L.length))]) ∧ num .f32 r = worO (askB T S X Y R x y L) L.length (djO T S R X Y x y L (flI (mjO T S R X Y x y L) L.length))
theorem ask_code {b : Bool} : askC b = codeE (askK b) := by cases b <;> rfl

theorem dfD_ex {T S R : Nat} {X Y x y : Int} (e : R2) : ∃ r, num .f32 r = dfO e.2 (drwV T S R (x - X) (y - Y) e.1) := fop_ex _ _ rfl _ _ (fop_ex _ _ rfl _ _ (num_ex _ _) (num_ex _ _)) (drwV_ex _ _ _ _ _ _)

theorem flI1 {m : Nat → Option Nat} : flI m 1 = 0 := by
  show (if ltO (m 0) (m (flI m 0)) = true then 0 else flI m 0) = 0
  split <;> rfl
set_option maxRecDepth 100000 in
set_option maxHeartbeats 4000000 in
theorem specWor_any (T S : Nat) (X Y : Int) (R : Nat) (x y : Int) (p : Option Addr) (c : Nat) (L : List R2) (hT : T < 4294967296) (hS2 : S < 4294967296) (hL : L.length ≤ 1048576) (hX : -128 ≤ X ∧ X ≤ 127) (hY : -128 ≤ Y ∧ Y ≤ 127) (hx : -128 ≤ x ∧ x ≤ 127) (hy : -128 ≤ y ∧ y ≤ 127) (hO : ∀ e ∈ L, -32768 ≤ e.2 ∧ e.2 ≤ 32767) (w : World) (hp : RsAt w p L) :
    Calls Tryd.prog 26 #[.agg (Aq T S), .agg (Ste X Y R x y), .slice p L.length c] w fun e w' => WorV T S R X Y x y L e ∧ Below w.heap.size w w' := by
  obtain ⟨z, b0, b1, B0⟩ := laid2 w (.cells (Aq T S) 34) (.cells (Ste X Y R x y) 38)
  obtain ⟨W, hW⟩ : ∃ W, (w.alloc (.cells (Aq T S) 34) |>.alloc (.cells (Ste X Y R x y) 38)) = W := ⟨_, rfl⟩
  rw [hW] at z b0 b1 B0
  have BW := Lib.hid B0
  have HP := Lib.hid hp
  have r0 := rangeAt_row b0
  have r1 := rangeAt_row b1
  have R0 := Lib.hid r0
  have RR1 := Lib.hid r1
  have T0 := l04Asked_any T S X Y R x y p c L hL hX hY hx hy W (hp.keep B0)
  have ZW := Lib.hid z
  clear B0 hp b0 b1 z
  cases hk : askB T S X Y R x y L
  · rw [hk] at T0
    have R1 := Lib.hid (show ∀ r, num .f32 r = num .f32 0 → WorV T S R X Y x y L (.returned (.tuple #[.int .i64 0, .float .f32 r, .int .i64 1])) from fun r hr => ⟨r, by rw [hk]; rfl, by rw [hk]; exact hr⟩)
    obtain ⟨n, hn⟩ : ∃ n, L.length = n := ⟨_, rfl⟩
    rw [hn] at hL T0 ⊢
    clear hn hk
    have ra := r0
    have rb := r1
    go_enter Tryd.func26, Tryd.ntmps26
    go_upto_region 1 with (fail)
    try rw [hW]
    clear hW
    go_wp2_with (first | (refine wpList_load_mid rfl 34 _ rfl w.heap.size 0 rfl (Aq T S).toList _ ra Tryd.underlying34 rfl (by kernel_rfl) ?_; try rw [Array.toArray_toList]) | (refine wpList_load_mid rfl 38 _ rfl (w.heap.size + 1) 0 rfl (Ste X Y R x y).toList _ rb Tryd.underlying38 rfl (by kernel_rfl) ?_; try rw [Array.toArray_toList]) | (go_at_call 59; refine T0.mono ?_; rintro e V1 ⟨rfl, hq1⟩; have Q1 := Lib.hid (BW.out.trans (hq1.mono BW.out.size)); clear hq1))
    go_ret3
    exact ⟨R1.out 0 rfl, Q1.out⟩
  rw [hk] at T0
  obtain ⟨p1, p2, p3, p4, p5, p6, p7⟩ := ask_parts hT hS2 hk
  have OKR := Lib.hid (fun k e he => okRs_time p7 k e he)
  have OKL := Lib.hid (fun (k : Nat) (e : R2) (he : L[k]? = some e) => hO e (List.mem_of_getElem? he))
  have T1 := Lib.hid (fun (t l : Int) (ht : 1 ≤ t ∧ t ≤ 100000) (V : World) => l04Difference_any X Y R x y T S t l p1 p2 p3 p4 p5 p6 ht V)
  rw [show askC true = 0 from rfl] at T0
  have RA := Lib.hid (show L.length = 0 → WorV T S R X Y x y L (.returned (.tuple #[.int .i64 0, .float .f32 0, .int .i64 6])) from fun h => ⟨0, by rw [hk, h]; rfl, by rw [hk, h]; rfl⟩)
  have RB := Lib.hid (show ¬ L.length = 0 → ∀ r, num .f32 r = djO T S R X Y x y L (flI (mjO T S R X Y x y L) L.length) → WorV T S R X Y x y L (.returned (.tuple #[.int .i64 (flI (mjO T S R X Y x y L) L.length : Nat), .float .f32 r, .int .i64 0])) from fun h r hr => ⟨r, by rw [hk]; simp only [worI, worK, if_pos, if_neg h]; rfl, by rw [hk]; simp only [worO, if_pos, if_neg h]; exact hr⟩)
  obtain ⟨n, hn⟩ : ∃ n, L.length = n := ⟨_, rfl⟩
  have HN := Lib.hid hn
  rw [hn] at hL T0 RA RB ⊢
  clear hn hk p7 hO
  have ra := r0
  have rb := r1
  go_enter Tryd.func26, Tryd.ntmps26
  go_upto_region 1 with (fail)
  try rw [hW]
  clear hW
  go_upto_region 4 with (first | (refine wpList_load_mid rfl 34 _ rfl w.heap.size 0 rfl (Aq T S).toList _ ra Tryd.underlying34 rfl (by kernel_rfl) ?_; try rw [Array.toArray_toList]) | (refine wpList_load_mid rfl 38 _ rfl (w.heap.size + 1) 0 rfl (Ste X Y R x y).toList _ rb Tryd.underlying38 rfl (by kernel_rfl) ?_; try rw [Array.toArray_toList]) | (go_at_call 59; refine T0.mono ?_; rintro e V1 ⟨rfl, hq1⟩; have Q1 := Lib.hid hq1; clear hq1))
  clear ra rb
  have zz := Q1.out.size
  have zw := ZW.out
  have r0 := range_kept r0 (by omega) _ Q1.out
  have r1 := range_kept r1 (by omega) _ Q1.out
  have PV := Lib.hid (HP.out.keep (BW.out.trans (Q1.out.mono BW.out.size)))
  rcases Nat.eq_zero_or_pos n with h0 | h0
  · subst h0
    clear r0 r1 zz zw
    go_wp2
    go_ret3
    exact ⟨RA.out trivial, BW.out.trans (Q1.out.mono BW.out.size)⟩
  · have hn1 : ¬ n = 0 := by omega
    have hn2 : ¬ (n : Int) = 0 := by omega
    have hn3 : ((n : Int) == 0) = false := by simp; omega
    obtain ⟨e, he⟩ : ∃ e, L[0]? = some e := ⟨_, List.getElem?_eq_getElem (by rw [HN.out]; exact h0)⟩
    obtain ⟨b, o, rfl, hr⟩ := PV.out 0 e he
    have hbl := World.block_lt_of_cell? _ _ (hr 0 _ rfl)
    have re := hr
    rw [Nat.zero_mul, Nat.add_zero] at re
    have hte := OKR.out 0 e he
    have hlt : 0 < n := h0
    go_upto_region 7 with (fail)
    refine wp_region_calm (ops' := regOf Tryd.f26 7) [0, 1, 2, 3, 4, 5, 6] [] .fin (Below (V1.heap.size) V1) [(0, One (.agg (Aq T S))), (1, One (.agg (Ste X Y R x y))), (2, One (.slice (some ⟨b, o, none⟩) n c)), (3, One (.pointer (some ⟨b, o, none⟩))), (4, One (.agg (Rd e.1 e.2))), (5, Numv .f32 (dfO e.2 (drwV T S R (x - X) (y - Y) e.1))), (6, Numv .f32 (dfO e.2 (drwV T S R (x - X) (y - Y) e.1)))] (by kernel_rfl) (by kernel_rfl) (by kernel_rfl) (by kernel_rfl) (by kernel_rfl) (by kernel_rfl) (by kernel_rfl) (by kernel_rfl) rfl ((Below.refl _ _).drew) ?_
    refine calm_load (some 24) 34 (.tmp 3) (w.heap.size) 0 _ (by kernel_rfl) (by kernel_rfl) (by kernel_rfl) (by kernel_rfl) (by kernel_rfl) (range_kept r0 (by omega)) Tryd.underlying34 rfl (by kernel_rfl) ?_
    refine calm_load (some 25) 38 (.tmp 4) ((w.heap.size + 1)) 0 _ (by kernel_rfl) (by kernel_rfl) (by kernel_rfl) (by kernel_rfl) (by kernel_rfl) (range_kept r1 (by omega)) Tryd.underlying38 rfl (by kernel_rfl) ?_
    refine calm_pure (some 26) (by kernel_rfl) (by kernel_rfl) (by kernel_rfl) (fun _ => by kernel_rfl) ?_
    refine calm_pure (some 27) (by kernel_rfl) (by kernel_rfl) (by kernel_rfl) (fun _ => (index_rd0 (T := 31) (n := n) (c := c) (x := .tmp 26) (y := .const (.int .i64 0)) (by kernel_rfl) (.inl rfl) (by kernel_rfl) (by kernel_rfl) hlt _)) ?_
    refine calm_load (some 28) 82 (.tmp 27) (b) o _ (by kernel_rfl) (by kernel_rfl) (by kernel_rfl) (by kernel_rfl) (by kernel_rfl) (range_kept re hbl) Tryd.underlying82 rfl (by kernel_rfl) ?_
    refine calm_call (some 29) 60 #[.agg (Aq T S), .agg (Ste X Y R x y), .agg (Rd e.1 e.2)] (numv_ne (dfD_ex e)) (by kernel_rfl) (by kernel_rfl) (by kernel_rfl) (fun _ => by kernel_rfl) (fun w' hw' => (T1.out e.1 e.2 hte w').mono fun e w2 ⟨r, he, hr, hq⟩ => ⟨_, he, ⟨r, rfl, hr⟩, below_step hw' hq (by have := hw'.size; omega)⟩) ?_
    rintro _ ⟨d0, rfl, hd0⟩
    refine calm_pureV (some 11) (.float .f32 d0) ⟨_, rfl, hd0⟩ (by kernel_rfl) (by kernel_rfl) (by kernel_rfl) (fun _ => by kernel_rfl) ?_
    rintro _ ⟨r11, rfl, hr11⟩
    refine calm_end fun w' hw' => plan_end (Clean.normal ?_)
    have HQ := Lib.hid (Q1.out.trans (hw'.mono Q1.out.size))
    have HD := Lib.hid (hr11.trans (djO_at (T := T) (S := S) (R := R) (X := X) (Y := Y) (x := x) (y := y) he).symm)
    have hok0 := dfO_ok (OKL.out 0 e he) hr11
    clear hw' hd0 hr11 he hr re hte r0 r1 hbl
    simp only [Act.put, List.setIfInBounds_toArray, List.set_cons_zero, List.set_cons_succ]
    have HOK := Lib.hid hok0
    clear hok0
    go_upto_region 9 with (fail)
    have e00 : ((1 : Nat) : Int) = 1 := rfl
    go_loopw [10, 11, 12] (fun (bi a i : Value) (wr : World) => ∃ (k r : Nat), 1 ≤ k ∧ k ≤ n ∧ i = .int .i64 (k : Int) ∧ bi = .int .i64 (flI (mjO T S R X Y x y L) k : Nat) ∧ a = .float .f32 r ∧ Hid (num .f32 r = djO T S R X Y x y L (flI (mjO T S R X Y x y L) k)) ∧ Hid (nanK .f32 r = false → r < 4294967296 ∧ r ≠ 2147483648) ∧ Hid (Below W.heap.size W wr)) (fun _ _ i _ => n - (intOf i).toNat)
    case atStart => exact ⟨1, r11, by omega, by omega, rfl, by rw [flI1]; rfl, rfl, by rw [flI1]; exact HD, HOK, HQ⟩
    case round =>
      obtain ⟨k, r, hk1, hk, rfl, rfl, rfl, hR, hO, hB⟩ := hrel
      by_cases hlt : k < n
      · have hki : (k : Int) < n := by omega
        obtain ⟨e, he⟩ : ∃ e, L[k]? = some e := ⟨_, List.getElem?_eq_getElem (by rw [HN.out]; exact hlt)⟩
        obtain ⟨b', o', hbo, hr⟩ := (HP.out.keep (BW.out.trans (hB.out.mono BW.out.size))) k e he
        cases hbo
        have hbl := World.block_lt_of_cell? _ _ (hr 0 _ rfl)
        have re := hr
        have hte := OKR.out k e he
        have zw := ZW.out
        have zz := hB.out.size
        have r0 := range_kept R0.out (by omega) _ hB.out
        have r1 := range_kept RR1.out (by omega) _ hB.out
        go_upto_region 11 with (fail)
        refine wp_region_calm (ops' := regOf Tryd.f26 11) [0, 1, 2, 3, 4, 5, 6, 7] [] .fin (Below (wr.heap.size) wr) [(0, One (.agg (Aq T S))), (1, One (.agg (Ste X Y R x y))), (2, One (.slice (some ⟨b, o, none⟩) n c)), (3, One (.int .i64 (k : Int))), (4, One (.pointer (some ⟨b, (o + k * 2), none⟩))), (5, One (.agg (Rd e.1 e.2))), (6, Numv .f32 (dfO e.2 (drwV T S R (x - X) (y - Y) e.1))), (7, Numv .f32 (dfO e.2 (drwV T S R (x - X) (y - Y) e.1)))] (by kernel_rfl) (by kernel_rfl) (by kernel_rfl) (by kernel_rfl) (by kernel_rfl) (by kernel_rfl) (by kernel_rfl) (by kernel_rfl) rfl ((Below.refl _ _).drew) ?_
        refine calm_load (some 36) 34 (.tmp 3) (w.heap.size) 0 _ (by kernel_rfl) (by kernel_rfl) (by kernel_rfl) (by kernel_rfl) (by kernel_rfl) (range_kept r0 (by omega)) Tryd.underlying34 rfl (by kernel_rfl) ?_
        refine calm_load (some 37) 38 (.tmp 4) ((w.heap.size + 1)) 0 _ (by kernel_rfl) (by kernel_rfl) (by kernel_rfl) (by kernel_rfl) (by kernel_rfl) (range_kept r1 (by omega)) Tryd.underlying38 rfl (by kernel_rfl) ?_
        refine calm_pure (some 38) (by kernel_rfl) (by kernel_rfl) (by kernel_rfl) (fun _ => by kernel_rfl) ?_
        refine calm_pure (some 39) (by kernel_rfl) (by kernel_rfl) (by kernel_rfl) (fun _ => by kernel_rfl) ?_
        refine calm_pure (some 40) (by kernel_rfl) (by kernel_rfl) (by kernel_rfl) (fun _ => (index_rd (T := 31) (k := k) (n := n) (c := c) (x := .tmp 38) (y := .tmp 39) (by kernel_rfl) (.inl rfl) (by kernel_rfl) (by kernel_rfl) hlt _)) ?_
        refine calm_load (some 41) 82 (.tmp 40) (b) (o + k * 2) _ (by kernel_rfl) (by kernel_rfl) (by kernel_rfl) (by kernel_rfl) (by kernel_rfl) (range_kept re hbl) Tryd.underlying82 rfl (by kernel_rfl) ?_
        refine calm_call (some 42) 60 #[.agg (Aq T S), .agg (Ste X Y R x y), .agg (Rd e.1 e.2)] (numv_ne (dfD_ex e)) (by kernel_rfl) (by kernel_rfl) (by kernel_rfl) (fun _ => by kernel_rfl) (fun w' hw' => (T1.out e.1 e.2 hte w').mono fun e w2 ⟨r, he, hr, hq⟩ => ⟨_, he, ⟨r, rfl, hr⟩, below_step hw' hq (by have := hw'.size; omega)⟩) ?_
        rintro _ ⟨d0, rfl, hd0⟩
        refine calm_pureV (some 13) (.float .f32 d0) ⟨_, rfl, hd0⟩ (by kernel_rfl) (by kernel_rfl) (by kernel_rfl) (fun _ => by kernel_rfl) ?_
        rintro _ ⟨r13, rfl, hr13⟩
        refine calm_end fun w' hw' => plan_end (Clean.normal ?_)
        have HQ2 := Lib.hid (hB.out.trans (hw'.mono hB.out.size))
        have HD2 := Lib.hid (hr13.trans (djO_at (T := T) (S := S) (R := R) (X := X) (Y := Y) (x := x) (y := y) he).symm)
        have HOK2 := Lib.hid (dfO_ok (OKL.out k e he) hr13)
        clear hw' hd0 hr13 he hr re hte r0 r1 hbl zw zz
        simp only [Act.put, List.setIfInBounds_toArray, List.set_cons_zero, List.set_cons_succ]
        have t1 : True := trivial
        go_upto_region 12 with (fail)
        have S1 := Lib.hid (fun V => l03Size_all r13 HOK2.out V)
        have S2 := Lib.hid (fun V => l03Size_all r hO.out V)
        have hcmp : ∀ s1 s2, num .f32 s1 = sizeO (num .f32 r13) → num .f32 s2 = sizeO (num .f32 r) → (FloatKind.f32.format.order s1 s2 == some Ordering.gt) = ltO (mjO T S R X Y x y L k) (mjO T S R X Y x y L (flI (mjO T S R X Y x y L) k)) := fun s1 s2 h1 h2 => by
          rw [show mjO T S R X Y x y L k = negO (sizeO (djO T S R X Y x y L k)) from rfl, show mjO T S R X Y x y L (flI (mjO T S R X Y x y L) k) = negO (sizeO (djO T S R X Y x y L (flI (mjO T S R X Y x y L) k))) from rfl, ltO_neg, ← HD2.out, ← hR.out, ordO_num h1 h2]
          rfl
        cases hl : ltO (mjO T S R X Y x y L k) (mjO T S R X Y x y L (flI (mjO T S R X Y x y L) k))
        · have HC := Lib.hid (fun s1 s2 h1 h2 => (hcmp s1 s2 h1 h2).trans hl)
          have E := Lib.hid (show flI (mjO T S R X Y x y L) (k + 1) = flI (mjO T S R X Y x y L) k by rw [flI, hl]; rfl)
          clear hcmp hl
          go_wp2_with (first | (have _t := t1; go_at_call 61; refine (S1.out _).mono ?_; rintro q1 Y1 ⟨s1, rfl, hs1, hb1⟩; have HS1 := Lib.hid hs1; have HB1 := Lib.hid (HQ2.out.trans (hb1.mono HQ2.out.size)); clear hs1 hb1 t1) | (go_at_call 61; refine (S2.out _).mono ?_; rintro q2 Y2 ⟨s2, rfl, hs2, hb2⟩; have hgt := HC.out s1 s2 HS1.out hs2; have HB2 := Lib.hid (HB1.out.trans (hb2.mono HB1.out.size)); clear hs2 hb2))
          go_roundw
          case rel => exact ⟨k + 1, r, by omega, by omega, by go_num, by rw [E.out], rfl, by rw [E.out]; exact hR, hO, HB2⟩
          case measure => simp [intOf]; omega
        · have HC := Lib.hid (fun s1 s2 h1 h2 => (hcmp s1 s2 h1 h2).trans hl)
          have E := Lib.hid (show flI (mjO T S R X Y x y L) (k + 1) = k by rw [flI, hl]; rfl)
          clear hcmp hl
          go_wp2_with (first | (have _t := t1; go_at_call 61; refine (S1.out _).mono ?_; rintro q1 Y1 ⟨s1, rfl, hs1, hb1⟩; have HS1 := Lib.hid hs1; have HB1 := Lib.hid (HQ2.out.trans (hb1.mono HQ2.out.size)); clear hs1 hb1 t1) | (go_at_call 61; refine (S2.out _).mono ?_; rintro q2 Y2 ⟨s2, rfl, hs2, hb2⟩; have hgt := HC.out s1 s2 HS1.out hs2; have HB2 := Lib.hid (HB1.out.trans (hb2.mono HB1.out.size)); clear hs2 hb2))
          go_roundw
          case rel => exact ⟨k + 1, r13, by omega, by omega, by go_num, by rw [E.out], rfl, by rw [E.out]; exact HD2, HOK2, HB2⟩
          case measure => simp [intOf]; omega
      · obtain rfl : k = n := by omega
        go_wp2
        go_ret3
        exact ⟨RB.out hn1 r hR.out, BW.out.trans (hB.out.mono BW.out.size)⟩
end Go.Proofs.YthacifhphoaioaaDoor
