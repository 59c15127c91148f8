/- Valid permits of an office, both sides. (The program's: the table of math/bits is laid.) Condition: the lists are short. -/
import Derived.Test.YtaghnminpfgdcaaGreatDoorOfV
import Derived.Test.YtaghnminpfgdcaaGreatDoorAre
namespace Go.Proofs.YtaghnminpfgdcaaGreatDoor
open Go Go.RowKit Go.Shelf
attribute [local go_sem] Oper.semAt_some run_store_float
set_option linter.unusedSimpArgs false
set_option linter.unusedVariables false
set_option maxRecDepth 100000
theorem l00InQ (x y z : Int) (r : Bool) (h : (decide (y ≤ x) && decide (x ≤ z)) = r) (w : World) : Calls Tryz.prog 110 #[.int .i64 x, .int .i64 y, .int .i64 z] w fun e w' => e = .returned (.bool r) ∧ w' = w := by
  subst h
  by_cases h1 : y ≤ x
  · by_cases h2 : x ≤ z
    · rw [show (decide (y ≤ x) && decide (x ≤ z)) = true by simp [h1, h2]]
      go_enter Tryz.func110, Tryz.ntmps110
      go_wp2
      go_ret
      exact ⟨rfl, rfl⟩
    · rw [show (decide (y ≤ x) && decide (x ≤ z)) = false by simp [h2]]
      go_enter Tryz.func110, Tryz.ntmps110
      go_wp2
      go_ret
      exact ⟨rfl, rfl⟩
  · rw [show (decide (y ≤ x) && decide (x ≤ z)) = false by simp [h1]]
    go_enter Tryz.func110, Tryz.ntmps110
    go_wp2
    go_ret
    exact ⟨rfl, rfl⟩
def okPQ (e : P3) : Prop := (-128 ≤ e.1 ∧ e.1 ≤ 127) ∧ (-128 ≤ e.2.1 ∧ e.2.1 ≤ 127) ∧ (-32768 ≤ e.2.2 ∧ e.2.2 ≤ 32767)
/-- A permit as told, whatever the ground is; and one of a ground. -/
def celB (e : P3) : Bool := decide (0 ≤ e.2.1) && decide (e.2.1 ≤ 63)
def plnB (e : P3) : Bool := ownB e && (celB e && rateB e)
def pmB (G : Gd) (e : P3) : Bool := ownB e && (inB G e.2.1 && rateB e)
theorem pmB_is (G : Gd) (e : P3) : pmB G e = (plnB e && inB G e.2.1) := by
  unfold pmB plnB
  cases hi : inB G e.2.1
  · simp
  · have : celB e = true := by
      unfold inB at hi
      unfold celB
      simp only [Bool.and_eq_true, decide_eq_true_eq] at hi ⊢
      exact hi.1
    rw [this]; simp
theorem all_andP (f g : P3 → Bool) : ∀ L : List P3, (L.all fun x => f x && g x) = (L.all f && L.all g)
  | [] => rfl
  | x :: L => by
    have h := all_andP f g L
    simp only [List.all_cons]
    rw [h]
    cases f x <;> cases g x <;> simp
/-- Are permits valid for an office? -/
def prmB (G : Gd) (Lw : List T2) (L : List P3) : Bool := ofB G Lw && (decide (L.length ≤ 6) && L.all (pmB G))
theorem pm_box3 (xo xc r : Int) (t : TypeId) (w : World) : ∃ V, w.alloc (.cells #[.int .i8 xo, .int .i8 xc, .int .i16 r] t) = V ∧ V.cell? ⟨w.heap.size, 0, none⟩ = some (.int .i8 xo) ∧ V.cell? ⟨w.heap.size, 1, none⟩ = some (.int .i8 xc) ∧ V.cell? ⟨w.heap.size, 2, none⟩ = some (.int .i16 r) ∧ Below w.heap.size w V :=
  ⟨_, rfl, cell_of_row _ _ 0 _ _ _ (heap_alloc_last w _), cell_of_row _ _ 1 _ _ _ (heap_alloc_last w _), cell_of_row _ _ 2 _ _ _ (heap_alloc_last w _), (Below.refl _ _).alloc (Nat.le_refl _) _⟩
set_option maxRecDepth 100000 in
set_option maxHeartbeats 4000000 in
theorem l07Plain_any (p : Option Addr) (c : Nat) (L : List P3) (hL : L.length ≤ 1048576) (hO : ∀ e ∈ L, okPQ e) (w : World) (hp : PsAt w p L) :
    Calls Tryz.prog 80 #[.slice p L.length c] w fun e w' => e = .returned (.bool (decide (L.length ≤ 6) && L.all plnB)) ∧ Below w.heap.size w w' := by
  have P0 := Lib.hid hp
  have HO := Lib.hid hO
  obtain ⟨n, hn⟩ : ∃ n, L.length = n := ⟨_, rfl⟩
  have HN := Lib.hid hn
  rw [hn] at hL ⊢
  clear hp hn hO
  go_enter Tryz.func80, Tryz.ntmps80
  go_upto_region 2 with (fail)
  go_loopw [3] (fun i wr => ∃ k : Nat, k ≤ n ∧ i = .int .i64 k ∧ Hid ((L.take k).all plnB = true) ∧ Hid (Below w.heap.size w wr)) (fun i _ => n - (intOf i).toNat)
  case atStart => exact ⟨0, by omega, rfl, Lib.hid (by simp), Lib.hid (Below.refl _ _)⟩
  case round =>
    obtain ⟨k, hk, rfl, HA, HB⟩ := hrel
    by_cases hlt : k < n
    · have hki : (k : Int) < n := by omega
      obtain ⟨e, he⟩ : ∃ e, L[k]? = some e := ⟨_, List.getElem?_eq_getElem (by rw [HN.out]; exact hlt)⟩
      obtain ⟨b, o, rfl, hr⟩ := (P0.out.keep HB.out) k e he
      have hst := all_step he HA.out
      have hno : plnB e = false → L.all plnB = false := all_bad he
      have hok := HO.out e (List.mem_of_getElem? he)
      obtain ⟨xo, xc, r⟩ := e
      have c0 : wr.cell? ⟨b, o + k * 3, none⟩ = some (.int .i8 xo) := hr 0 _ rfl
      have c1 : wr.cell? ⟨b, o + k * 3 + 1, none⟩ = some (.int .i8 xc) := hr 1 _ rfl
      have c2 : wr.cell? ⟨b, o + k * 3 + 2, none⟩ = some (.int .i16 r) := hr 2 _ rfl
      have h1 : -128 ≤ xo ∧ xo ≤ 127 := hok.1
      have h2 : -128 ≤ xc ∧ xc ≤ 127 := hok.2.1
      have h3 : -32768 ≤ r ∧ r ≤ 32767 := hok.2.2
      have HW := Lib.hid (show ∀ b1 b2 b3, (decide (0 ≤ xo) && decide (xo ≤ 7)) = b1 → (decide (0 ≤ xc) && decide (xc ≤ 63)) = b2 → (decide (0 ≤ r) && decide (r ≤ 400)) = b3 → plnB (xo, xc, r) = (b1 && (b2 && b3)) from fun b1 b2 b3 h1 h2 h3 => by unfold plnB ownB celB rateB; rw [h1, h2, h3])
      obtain ⟨V2, hV2, d0, d1', d2', b2⟩ := pm_box3 xo xc r 82 wr
      have HB2 := Lib.hid (HB.out.trans (b2.mono HB.out.size))
      obtain ⟨q, hq⟩ : ∃ q, wr.heap.size = q := ⟨_, rfl⟩
      rw [hq] at d0 d1' d2'
      clear hr he hok b2
      go_upto_region 5 with (fail)
      try rw [hV2]
      clear hV2 hq c0 c1 c2
      cases d1 : (decide (0 ≤ xo) && decide (xo ≤ 7))
      · have HF := Lib.hid (hno (by rw [HW.out _ _ _ d1 rfl rfl]; rfl))
        have I1 := Lib.hid (fun V => l00InQ xo 0 7 false d1 V)
        clear hst hno HW d1
        go_wp2_with (go_at_call 110; fail)
        refine (I1.out _).mono ?_
        rintro e V ⟨rfl, hV⟩
        rw [hV]
        clear hV
        go_wp2
        go_ret
        exact ⟨by rw [HF.out, Bool.and_false]; rfl, HB2.out⟩
      cases d2 : (decide (0 ≤ xc) && decide (xc ≤ 63))
      · have HF := Lib.hid (hno (by rw [HW.out _ _ _ d1 d2 rfl]; rfl))
        have I1 := Lib.hid (fun V => l00InQ xo 0 7 true d1 V)
        have I2 := Lib.hid (fun V => l00InQ xc 0 63 false d2 V)
        clear hst hno HW d1 d2
        go_wp2_with (go_at_call 110; fail)
        refine (I1.out _).mono ?_
        rintro e V ⟨rfl, hV⟩
        rw [hV]
        clear hV
        go_wp2_with (go_at_call 110; fail)
        refine (I2.out _).mono ?_
        rintro e V ⟨rfl, hV⟩
        rw [hV]
        clear hV
        go_wp2
        go_ret
        exact ⟨by rw [HF.out, Bool.and_false]; rfl, HB2.out⟩
      cases d3 : (decide (0 ≤ r) && decide (r ≤ 400))
      · have HF := Lib.hid (hno (by rw [HW.out _ _ _ d1 d2 d3]; rfl))
        have I1 := Lib.hid (fun V => l00InQ xo 0 7 true d1 V)
        have I2 := Lib.hid (fun V => l00InQ xc 0 63 true d2 V)
        have I3 := Lib.hid (fun V => l00InQ r 0 400 false d3 V)
        clear hst hno HW d1 d2 d3
        go_wp2_with (go_at_call 110; fail)
        refine (I1.out _).mono ?_
        rintro e V ⟨rfl, hV⟩
        rw [hV]
        clear hV
        go_wp2_with (go_at_call 110; fail)
        refine (I2.out _).mono ?_
        rintro e V ⟨rfl, hV⟩
        rw [hV]
        clear hV
        go_wp2_with (go_at_call 110; fail)
        refine (I3.out _).mono ?_
        rintro e V ⟨rfl, hV⟩
        rw [hV]
        clear hV
        go_wp2
        go_ret
        exact ⟨by rw [HF.out, Bool.and_false]; rfl, HB2.out⟩
      have I1 := Lib.hid (fun V => l00InQ xo 0 7 true d1 V)
      have I2 := Lib.hid (fun V => l00InQ xc 0 63 true d2 V)
      have I3 := Lib.hid (fun V => l00InQ r 0 400 true d3 V)
      have HT := Lib.hid (hst.trans (by rw [HW.out _ _ _ d1 d2 d3]; first | done | rfl))
      clear hst hno HW d1 d2 d3
      go_wp2_with (go_at_call 110; fail)
      refine (I1.out _).mono ?_
      rintro e V ⟨rfl, hV⟩
      rw [hV]
      clear hV
      go_wp2_with (go_at_call 110; fail)
      refine (I2.out _).mono ?_
      rintro e V ⟨rfl, hV⟩
      rw [hV]
      clear hV
      go_wp2_with (go_at_call 110; fail)
      refine (I3.out _).mono ?_
      rintro e V ⟨rfl, hV⟩
      rw [hV]
      clear hV
      go_wp2
      go_roundw
      case rel => exact ⟨k + 1, by omega, by go_num, HT, HB2⟩
      case measure => simp [intOf]; omega
    · obtain rfl : k = n := by omega
      have HT := Lib.hid (show L.all plnB = true by have := HA.out; rwa [← HN.out, List.take_length] at this)
      go_wp2
      go_ret
      exact ⟨by rw [HT.out, Bool.and_true, ← show decide ((k : Int) ≤ 6) = decide (k ≤ 6) from decide_eq_decide.2 (by omega)]; rfl, HB.out⟩
set_option maxRecDepth 100000 in
set_option maxHeartbeats 4000000 in
theorem l07Fits_any (G : Gd) (pw : Option Addr) (cw : Nat) (Lw : List T2) (hLw : Lw.length ≤ 1048576) (hOw : ∀ e ∈ Lw, okT2 e) (p : Option Addr) (c : Nat) (L : List P3) (hL : L.length ≤ 1048576) (hO : ∀ e ∈ L, okPQ e)
    (b : Nat) (w : World) (hb : OfAt w b 0 ⟨G, pw, Lw.length, cw⟩) (hbl : b < w.heap.size) (hpw : TsAt w pw Lw) (hp : PsAt w p L) (hG : GdOk G) :
    Calls Tryz.prog 48 #[.pointer (some ⟨b, 0, none⟩), .slice p L.length c] w fun e w' => e = .returned (.bool (prmB G Lw L)) ∧ Below w.heap.size w w' := by
  have T0 := Lib.hid (l07Ok_any G pw cw Lw hLw hOw b w hb hpw hG)
  have TP := Lib.hid (fun V (h : PsAt V p L) => l07Plain_any p c L hL hO V h)
  have GA := Lib.hid (fun V (hV : Below w.heap.size w V) => hb.g.below hV hbl)
  have HG := Lib.hid hG
  have HO := Lib.hid hO
  have HP := Lib.hid hp
  have HV0 := Lib.hid (show ∀ b1 b2, ofB G Lw = b1 → (decide (L.length ≤ 6) && L.all plnB) = b2 → prmB G Lw L = (b1 && (b2 && L.all fun e => inB G e.2.1)) from fun b1 b2 h1 h2 => by
    unfold prmB
    rw [h1, ← h2, show pmB G = fun e => plnB e && inB G e.2.1 from funext (pmB_is G), all_andP plnB, Bool.and_assoc])
  obtain ⟨n, hn⟩ : ∃ n, L.length = n := ⟨_, rfl⟩
  have HN := Lib.hid hn
  rw [hn] at hL TP HV0 ⊢
  clear hn hb hp hpw hG hO hOw hLw hbl
  cases ho : ofB G Lw
  · rw [ho] at T0
    have HE := Lib.hid (HV0.out _ _ ho rfl)
    clear ho HV0
    go_enter Tryz.func48, Tryz.ntmps48
    go_wp2_with (go_at_call 79; refine T0.out.mono ?_; rintro e V ⟨rfl, hV⟩; have HV := Lib.hid hV; clear hV)
    go_ret
    exact ⟨by rw [HE.out, Bool.false_and]; rfl, HV.out.below _⟩
  rw [ho] at T0
  cases hpl : (decide (n ≤ 6) && L.all plnB)
  · rw [hpl] at TP
    have HE := Lib.hid (HV0.out _ _ ho hpl)
    clear ho hpl HV0
    go_enter Tryz.func48, Tryz.ntmps48
    go_wp2_with (first | (go_at_call 79; refine T0.out.mono ?_; rintro e V ⟨rfl, hV⟩; have HV := Lib.hid (hV.below w.heap.size); clear hV) | (go_at_call 80; refine (TP.out _ (HP.out.keep HV.out)).mono ?_; rintro e V2 ⟨rfl, hV⟩; have HV2 := Lib.hid (HV.out.trans (hV.mono HV.out.size)); clear hV))
    go_ret
    exact ⟨by rw [HE.out]; rfl, HV2.out⟩
  rw [hpl] at TP
  have HE := Lib.hid (show prmB G Lw L = L.all fun e => inB G e.2.1 by rw [HV0.out _ _ ho hpl, Bool.true_and, Bool.true_and])
  clear ho hpl HV0
  go_enter Tryz.func48, Tryz.ntmps48
  go_upto_region 4 with (first | (go_at_call 79; refine T0.out.mono ?_; rintro e V ⟨rfl, hV⟩; have HV := Lib.hid (hV.below w.heap.size); clear hV) | (go_at_call 80; refine (TP.out _ (HP.out.keep HV.out)).mono ?_; rintro e V2 ⟨rfl, hV⟩; have HV2 := Lib.hid (HV.out.trans (hV.mono HV.out.size)); clear hV))
  clear T0 TP HV
  go_loopw [5] (fun i wr => ∃ k : Nat, k ≤ n ∧ i = .int .i64 k ∧ Hid ((L.take k).all (fun e => inB G e.2.1) = true) ∧ Hid (Quiet V2 wr)) (fun i _ => n - (intOf i).toNat)
  case atStart => exact ⟨0, by omega, rfl, Lib.hid (by simp), Lib.hid (Quiet.refl _)⟩
  case round =>
    obtain ⟨k, hk, rfl, HA, HQ⟩ := hrel
    by_cases hlt : k < n
    · have hki : (k : Int) < n := by omega
      obtain ⟨e, he⟩ : ∃ e, L[k]? = some e := ⟨_, List.getElem?_eq_getElem (by rw [HN.out]; exact hlt)⟩
      have hB2 : Below w.heap.size w wr := HV2.out.trans (HQ.out.below _)
      obtain ⟨tb, to, rfl, hr⟩ := (HP.out.keep hB2) k e he
      have hst := all_step (f := fun e : P3 => inB G e.2.1) he HA.out
      have hno : (fun e : P3 => inB G e.2.1) e = false → L.all (fun e => inB G e.2.1) = false := all_bad (f := fun e : P3 => inB G e.2.1) he
      have h8 := (HO.out e (List.mem_of_getElem? he)).2.1
      obtain ⟨xo, xc, r⟩ := e
      have c1 : wr.cell? ⟨tb, to + k * 3 + 1, none⟩ = some (.int .i8 xc) := hr 1 _ rfl
      have h8 : -128 ≤ xc ∧ xc ≤ 127 := h8
      have T1 := Lib.hid (fun V (hV : Quiet wr V) => l01Is_int G xc b V (GA.out V (hB2.trans (hV.below _))) HG.out)
      clear hr he
      cases hi : inB G xc
      · rw [hi] at T1
        have HF := Lib.hid (hno hi)
        clear hi hst hno hB2
        go_upto_region 6 with (fail)
        refine wp_region_calm (ops' := regOf Tryz.f48 6) [0, 1, 2, 3, 4, 5, 6, 7, 8, 9, 10] [] .fin (Quiet wr) [(0, One (.pointer (some ⟨b, 0, none⟩))), (1, One (.pointer (some ⟨b, 0, none⟩))), (2, One (.pointer (some ⟨b, 0, none⟩))), (3, One (.slice (some ⟨tb, to, none⟩) n c)), (4, One (.int .i64 (k : Int))), (5, One (.pointer (some ⟨tb, to + k * 3, none⟩))), (6, One (.pointer (some ⟨tb, to + k * 3 + 1, none⟩))), (7, One (.int .i8 xc)), (8, One (.int .i64 xc)), (9, One (.bool false)), (10, One (.bool true))] (by kernel_rfl) (by kernel_rfl) (by kernel_rfl) (by kernel_rfl) (by kernel_rfl) (by kernel_rfl) (by kernel_rfl) (by kernel_rfl) rfl ((Quiet.refl _).drewN 1) ?_
        refine calm_pure (some 20) (by kernel_rfl) (by kernel_rfl) (by kernel_rfl) (fun _ => by kernel_rfl) ?_
        refine calm_pure (some 21) (by kernel_rfl) (by kernel_rfl) (by kernel_rfl) (fun _ => by kernel_rfl) ?_
        refine calm_pure (some 22) (by kernel_rfl) (by kernel_rfl) (by kernel_rfl) (fun _ => by kernel_rfl) ?_
        refine calm_pure (some 23) (by kernel_rfl) (by kernel_rfl) (by kernel_rfl) (fun _ => by kernel_rfl) ?_
        refine calm_pure (some 24) (by kernel_rfl) (by kernel_rfl) (by kernel_rfl) (fun _ => by kernel_rfl) ?_
        refine calm_pure (some 25) (by kernel_rfl) (by kernel_rfl) (by kernel_rfl) (fun _ => index_pm (T := 43) (n := n) (c := c) (x := .tmp 23) (y := .tmp 24) (by kernel_rfl) (.inl rfl) (by kernel_rfl) (by kernel_rfl) hlt _) ?_
        refine calm_pure (some 26) (by kernel_rfl) (by kernel_rfl) (by kernel_rfl) (fun _ => by kernel_rfl) ?_
        refine calm_read (some 27) (by kernel_rfl) (by kernel_rfl) (by kernel_rfl) (fun w' hw' => load_cell (ty := 22) (x := .tmp 26) (b := tb) (o := to + k * 3 + 1) (by kernel_rfl) (by kernel_rfl) Tryz.underlying22 rfl (kq c1 w' hw')) ?_
        refine calm_pure (some 28) (by kernel_rfl) (by kernel_rfl) (by kernel_rfl) (fun _ => cv8 (x := .tmp 27) (by kernel_rfl) (by kernel_rfl) h8 _) ?_
        refine calm_call (some 29) 81 #[.pointer (some ⟨b, 0, none⟩), .int .i64 xc] ⟨_, rfl⟩ (by kernel_rfl) (by kernel_rfl) (by kernel_rfl) (fun _ => by kernel_rfl) (fun w' hw' => (T1.out w' hw').mono fun e w2 h => ⟨_, h.1, rfl, h.2 ▸ hw'⟩) ?_
        rintro _ rfl
        refine calm_pure (some 30) (by kernel_rfl) (by kernel_rfl) (by kernel_rfl) (fun _ => by kernel_rfl) ?_
        refine calm_end fun w' hw' => plan_end (Clean.normal ?_)
        simp only [Act.put, List.setIfInBounds_toArray, List.set_cons_zero, List.set_cons_succ]
        have HQ1 := Lib.hid (HQ.out.trans hw')
        clear c1 hw'
        go_wp2
        go_ret
        exact ⟨by rw [HE.out, HF.out]; rfl, HV2.out.trans (HQ1.out.below _)⟩
      · rw [hi] at T1
        have HT := Lib.hid (hst.trans hi)
        clear hi hst hno hB2
        go_upto_region 6 with (fail)
        refine wp_region_calm (ops' := regOf Tryz.f48 6) [0, 1, 2, 3, 4, 5, 6, 7, 8, 9, 10] [] .fin (Quiet wr) [(0, One (.pointer (some ⟨b, 0, none⟩))), (1, One (.pointer (some ⟨b, 0, none⟩))), (2, One (.pointer (some ⟨b, 0, none⟩))), (3, One (.slice (some ⟨tb, to, none⟩) n c)), (4, One (.int .i64 (k : Int))), (5, One (.pointer (some ⟨tb, to + k * 3, none⟩))), (6, One (.pointer (some ⟨tb, to + k * 3 + 1, none⟩))), (7, One (.int .i8 xc)), (8, One (.int .i64 xc)), (9, One (.bool true)), (10, One (.bool false))] (by kernel_rfl) (by kernel_rfl) (by kernel_rfl) (by kernel_rfl) (by kernel_rfl) (by kernel_rfl) (by kernel_rfl) (by kernel_rfl) rfl ((Quiet.refl _).drewN 1) ?_
        refine calm_pure (some 20) (by kernel_rfl) (by kernel_rfl) (by kernel_rfl) (fun _ => by kernel_rfl) ?_
        refine calm_pure (some 21) (by kernel_rfl) (by kernel_rfl) (by kernel_rfl) (fun _ => by kernel_rfl) ?_
        refine calm_pure (some 22) (by kernel_rfl) (by kernel_rfl) (by kernel_rfl) (fun _ => by kernel_rfl) ?_
        refine calm_pure (some 23) (by kernel_rfl) (by kernel_rfl) (by kernel_rfl) (fun _ => by kernel_rfl) ?_
        refine calm_pure (some 24) (by kernel_rfl) (by kernel_rfl) (by kernel_rfl) (fun _ => by kernel_rfl) ?_
        refine calm_pure (some 25) (by kernel_rfl) (by kernel_rfl) (by kernel_rfl) (fun _ => index_pm (T := 43) (n := n) (c := c) (x := .tmp 23) (y := .tmp 24) (by kernel_rfl) (.inl rfl) (by kernel_rfl) (by kernel_rfl) hlt _) ?_
        refine calm_pure (some 26) (by kernel_rfl) (by kernel_rfl) (by kernel_rfl) (fun _ => by kernel_rfl) ?_
        refine calm_read (some 27) (by kernel_rfl) (by kernel_rfl) (by kernel_rfl) (fun w' hw' => load_cell (ty := 22) (x := .tmp 26) (b := tb) (o := to + k * 3 + 1) (by kernel_rfl) (by kernel_rfl) Tryz.underlying22 rfl (kq c1 w' hw')) ?_
        refine calm_pure (some 28) (by kernel_rfl) (by kernel_rfl) (by kernel_rfl) (fun _ => cv8 (x := .tmp 27) (by kernel_rfl) (by kernel_rfl) h8 _) ?_
        refine calm_call (some 29) 81 #[.pointer (some ⟨b, 0, none⟩), .int .i64 xc] ⟨_, rfl⟩ (by kernel_rfl) (by kernel_rfl) (by kernel_rfl) (fun _ => by kernel_rfl) (fun w' hw' => (T1.out w' hw').mono fun e w2 h => ⟨_, h.1, rfl, h.2 ▸ hw'⟩) ?_
        rintro _ rfl
        refine calm_pure (some 30) (by kernel_rfl) (by kernel_rfl) (by kernel_rfl) (fun _ => by kernel_rfl) ?_
        refine calm_end fun w' hw' => plan_end (Clean.normal ?_)
        simp only [Act.put, List.setIfInBounds_toArray, List.set_cons_zero, List.set_cons_succ]
        have HQ1 := Lib.hid (HQ.out.trans hw')
        clear c1 hw'
        go_wp2
        go_roundw
        case rel => exact ⟨k + 1, by omega, by go_num, HT, HQ1⟩
        case measure => simp [intOf]; omega
    · obtain rfl : k = n := by omega
      have HT := Lib.hid (show (L.all fun e => inB G e.2.1) = true by have := HA.out; rwa [← HN.out, List.take_length] at this)
      go_wp2
      go_ret
      exact ⟨by rw [HE.out, HT.out]; rfl, HV2.out.trans (HQ.out.below _)⟩
set_option maxRecDepth 100000 in
set_option maxHeartbeats 4000000 in
theorem valOne (G : Gd) (b : Nat) (x : P3) (hx : okPQ x) (hv : validB G = true) (hG : GdOk G) (w : World) (hb : GrdAt w b 0 G) (hbl : b < w.heap.size) :
    Calls Tryz.prog 97 #[.agg (Pm x.1 x.2.1 x.2.2), .pointer (some ⟨b, 0, none⟩)] w fun e w' => e = .returned (.bool (pmB G x)) ∧ Below w.heap.size w w' := by
  obtain ⟨W, hW, z, r, hB⟩ := one_boxA (Pm x.1 x.2.1 x.2.2) 82 w
  have C : ∀ V, Below W.heap.size W V → V.cell? ⟨w.heap.size, 0, none⟩ = some (.int .i8 x.1) ∧ V.cell? ⟨w.heap.size, 1, none⟩ = some (.int .i8 x.2.1) ∧ V.cell? ⟨w.heap.size, 2, none⟩ = some (.int .i16 x.2.2) := fun V hV => by
    have rV := range_kept r (by omega) _ hV
    have h0 := rV 0 (.int .i8 x.1) rfl
    have h1 := rV 1 (.int .i8 x.2.1) rfl
    have h2 := rV 2 (.int .i16 x.2.2) rfl
    rw [Nat.zero_add] at h0 h1 h2
    exact ⟨h0, h1, h2⟩
  have HC := Lib.hid C
  obtain ⟨c0, c1, c2⟩ := C W (Below.refl _ _)
  have hx2 : -128 ≤ x.2.1 ∧ x.2.1 ≤ 127 := hx.2.1
  have T1 := Lib.hid (fun V => hasOwner_any x V)
  have T2 := Lib.hid (fun V => hasRate_any x V)
  have T3 := Lib.hid (fun V (hV : Below W.heap.size W V) => ((hasCell_any G x.2.1 (by omega) (by omega) b V ((hb.below hB hbl).below hV (by omega)) (by have := hV.size; omega) hG).mono fun e w' h => (⟨by rw [h.1, hold_in G x.2.1 hv], h.2⟩ : e = .returned (.bool (inB G x.2.1)) ∧ Below V.heap.size V w')))
  have HE := Lib.hid (show ∀ b1 b2 b3, ownB x = b1 → inB G x.2.1 = b2 → rateB x = b3 → pmB G x = (b1 && (b2 && b3)) from fun b1 b2 b3 h1 h2 h3 => by unfold pmB; rw [h1, h2, h3])
  have HB := Lib.hid hB
  have B0 := Lib.hid (Below.refl W.heap.size W)
  simp only [Pm] at T1 T2 hW
  clear C r z hB hb hbl hx
  simp only [Pm]
  cases ho : ownB x
  · rw [ho] at T1
    have EE := Lib.hid (HE.out _ _ _ ho rfl rfl)
    clear ho HE
    go_enter Tryz.func97, Tryz.ntmps97
    go_upto_region 1 with (fail)
    try rw [hW]
    clear hW
    go_wp2_with (go_at_call 98; refine (T1.out _).mono ?_; rintro e V ⟨rfl, hV⟩; have HV := Lib.hid (HB.out.trans (hV.mono HB.out.size)); clear hV)
    go_ret
    exact ⟨by rw [EE.out]; rfl, HV.out⟩
  rw [ho] at T1
  cases hi : inB G x.2.1
  · rw [hi] at T3
    have EE := Lib.hid (HE.out _ _ _ ho hi rfl)
    clear ho hi HE
    go_enter Tryz.func97, Tryz.ntmps97
    go_upto_region 1 with (fail)
    try rw [hW]
    clear hW
    go_wp2_with (first | (go_at_call 98; refine (T1.out _).mono ?_; rintro e V ⟨rfl, hV⟩; obtain ⟨d0, d1, d2⟩ := HC.out V hV; have HV0 := Lib.hid hV; clear hV c0 c1 c2) | (go_at_call 99; refine (T3.out _ HV0.out).mono ?_; rintro e V2 ⟨rfl, hV⟩; have HV := Lib.hid (HB.out.trans ((HV0.out.trans (hV.mono HV0.out.size)).mono HB.out.size)); clear hV))
    go_ret
    exact ⟨by rw [EE.out]; rfl, HV.out⟩
  rw [hi] at T3
  obtain ⟨y, hy⟩ : ∃ y, rateB x = y := ⟨_, rfl⟩
  rw [hy] at T2
  have EE := Lib.hid (HE.out _ _ _ ho hi hy)
  clear ho hi hy HE
  go_enter Tryz.func97, Tryz.ntmps97
  go_upto_region 1 with (fail)
  try rw [hW]
  clear hW
  go_wp2_with (first | (go_at_call 98; refine (T1.out _).mono ?_; rintro e V ⟨rfl, hV⟩; obtain ⟨d0, d1, d2⟩ := HC.out V hV; have HV0 := Lib.hid hV; clear hV c0 c1 c2) | (go_at_call 99; refine (T3.out _ HV0.out).mono ?_; rintro e V2 ⟨rfl, hV⟩; have HV1 := Lib.hid (HV0.out.trans (hV.mono HV0.out.size)); obtain ⟨f0, f1, f2⟩ := HC.out V2 HV1.out; clear hV d0 d1 d2) | (go_at_call 100; refine (T2.out _).mono ?_; rintro e V3 ⟨rfl, hV⟩; have HV := Lib.hid (HB.out.trans ((HV1.out.trans (hV.mono HV1.out.size)).mono HB.out.size)); clear hV))
  go_ret
  exact ⟨by rw [EE.out]; simp, HV.out⟩

set_option maxRecDepth 100000 in
set_option maxHeartbeats 2000000 in
theorem one_V (b : Nat) (B : P3 → Bool) (x : P3) (q : Nat) (w : World) (hq : w.cell? ⟨q, 0, none⟩ = some (.func (.func 97) #[] #[.pointer (some ⟨b, 0, none⟩)]))
    (hnf : ∀ V, Below w.heap.size w V → Calls Tryz.prog 97 #[.agg (Pm x.1 x.2.1 x.2.2), .pointer (some ⟨b, 0, none⟩)] V fun e V' => e = .returned (.bool (B x)) ∧ Below V.heap.size V V') :
    Calls Tryz.prog 126 #[.agg (Pm x.1 x.2.1 x.2.2), .pointer (some ⟨q, 0, none⟩)] w fun e w' => e = .returned (.bool (!B x)) ∧ Below w.heap.size w w' := by
  have hlt := World.block_lt_of_cell? w _ hq
  obtain ⟨W, hW, z, r, hB⟩ := one_boxA (Pm x.1 x.2.1 x.2.2) 82 w
  have c0 : W.cell? ⟨w.heap.size, 0, none⟩ = some (.int .i8 x.1) := by have := r 0 (.int .i8 x.1) rfl; rwa [Nat.zero_add] at this
  have c1 : W.cell? ⟨w.heap.size, 1, none⟩ = some (.int .i8 x.2.1) := by have := r 1 (.int .i8 x.2.1) rfl; rwa [Nat.zero_add] at this
  have c2 : W.cell? ⟨w.heap.size, 2, none⟩ = some (.int .i16 x.2.2) := by have := r 2 (.int .i16 x.2.2) rfl; rwa [Nat.zero_add] at this
  have cq : W.cell? ⟨q, 0, none⟩ = some (.func (.func 97) #[] #[.pointer (some ⟨b, 0, none⟩)]) := (hB.cell (p := ⟨q, 0, none⟩) hlt).trans hq
  have T := Lib.hid (hnf W hB)
  have HB := Lib.hid hB
  simp only [Pm] at T hW
  clear hnf hq hlt z r hB
  simp only [Pm]
  go_enter Tryz.func126, Tryz.ntmps126
  go_upto_region 1 with (fail)
  try rw [hW]
  clear hW
  go_wp2_with (go_at_call 97; refine T.out.mono ?_; rintro e V ⟨rfl, hV⟩; have HV := Lib.hid (HB.out.trans (hV.mono HB.out.size)); clear hV)
  go_ret
  exact ⟨rfl, HV.out⟩
set_option maxRecDepth 100000 in
set_option maxHeartbeats 2000000 in
theorem idx_V (b : Nat) (B : P3 → Bool) (p : Option Addr) (c : Nat) (L : List P3) (hL : L.length ≤ 1048576) (q : Nat) (w : World) (hp : PsAt w p L) (hq : w.cell? ⟨q, 0, none⟩ = some (.func (.func 97) #[] #[.pointer (some ⟨b, 0, none⟩)])) (hnf : ∀ x ∈ L, ∀ V, Below w.heap.size w V → Calls Tryz.prog 97 #[.agg (Pm x.1 x.2.1 x.2.2), .pointer (some ⟨b, 0, none⟩)] V fun e V' => e = .returned (.bool (B x)) ∧ Below V.heap.size V V') :
    Calls Tryz.prog 145 #[.slice p L.length c, .func (.func 126) #[] #[.pointer (some ⟨q, 0, none⟩)]] w fun e w' => (∃ x : Int, e = .returned (.int .i64 x) ∧ decide (x ≥ 0) = !(L.all B)) ∧ Below w.heap.size w w' := by
  have hlt := World.block_lt_of_cell? w _ hq
  have P0 := Lib.hid hp
  have T := Lib.hid (fun x (hx : x ∈ L) V (hV : Below w.heap.size w V) => one_V b B x q V ((hV.cell (p := ⟨q, 0, none⟩) hlt).trans hq) (fun V' hV' => hnf x hx V' (hV.trans (hV'.mono hV.size))))
  obtain ⟨n, hn⟩ : ∃ n, L.length = n := ⟨_, rfl⟩
  have HN := Lib.hid hn
  rw [hn] at hL ⊢
  clear hp hq hn hnf hlt
  go_enter Tryz.func145, Tryz.ntmps145
  go_upto_region 2 with (fail)
  go_loopw [8] (fun i wr => ∃ k : Nat, k ≤ n ∧ i = .int .i64 k ∧ Hid ((L.take k).all B = true) ∧ Hid (Below w.heap.size w wr)) (fun i _ => n - (intOf i).toNat)
  case atStart => exact ⟨0, by omega, rfl, Lib.hid (by simp), Lib.hid (Below.refl _ _)⟩
  case round =>
    obtain ⟨k, hk, rfl, HA, HB⟩ := hrel
    by_cases hlt : k < n
    · have hki : (k : Int) < n := by omega
      obtain ⟨x, hx⟩ : ∃ x, L[k]? = some x := ⟨_, List.getElem?_eq_getElem (by rw [HN.out]; exact hlt)⟩
      obtain ⟨b, o, rfl, hr⟩ := (P0.out.keep HB.out) k x hx
      have c0 : wr.cell? ⟨b, o + k * 3, none⟩ = some (.int .i8 x.1) := hr 0 _ rfl
      have c1 : wr.cell? ⟨b, o + k * 3 + 1, none⟩ = some (.int .i8 x.2.1) := hr 1 _ rfl
      have c2 : wr.cell? ⟨b, o + k * 3 + 2, none⟩ = some (.int .i16 x.2.2) := hr 2 _ rfl
      have T1 := T.out x (List.mem_of_getElem? hx) wr HB.out
      have HT : (L.take (k + 1)).all B = ((L.take k).all B && B x) := by
        rw [List.take_add_one, hx]; simp
      rw [HA.out, Bool.true_and] at HT
      simp only [Pm] at T1
      cases hb : B x
      · have HF := Lib.hid (show L.all B = false by
          rw [List.all_eq_false]
          exact ⟨x, List.mem_of_getElem? hx, by rw [hb]; decide⟩)
        rw [hb] at T1
        have T2 := Lib.hid T1
        clear hr hx HT T1 hb
        go_wp2_with (go_at_call 126; refine T2.out.mono ?_; rintro e V ⟨rfl, hV⟩; have HV := Lib.hid (HB.out.trans (hV.mono HB.out.size)); clear hV c0 c1 c2)
        go_ret
        exact ⟨⟨_, rfl, by rw [HF.out]; simp⟩, HV.out⟩
      · rw [hb] at T1 HT
        have T2 := Lib.hid T1
        have HT2 := Lib.hid HT
        clear hr hx HT T1 hb
        go_wp2_with (go_at_call 126; refine T2.out.mono ?_; rintro e V ⟨rfl, hV⟩; have HV := Lib.hid (HB.out.trans (hV.mono HB.out.size)); clear hV c0 c1 c2)
        go_roundw
        case rel => exact ⟨k + 1, by omega, by go_num, HT2, HV⟩
        case measure => simp [intOf]; omega
    · obtain rfl : k = n := by omega
      have HF := Lib.hid (show L.all B = true by
        have := HA.out
        rwa [← HN.out, List.take_length] at this)
      go_wp2
      go_ret
      exact ⟨⟨_, rfl, by rw [HF.out]; decide⟩, HB.out⟩
theorem con_V (b : Nat) (B : P3 → Bool) (p : Option Addr) (c : Nat) (L : List P3) (hL : L.length ≤ 1048576) (q : Nat) (w : World) (hp : PsAt w p L) (hq : w.cell? ⟨q, 0, none⟩ = some (.func (.func 97) #[] #[.pointer (some ⟨b, 0, none⟩)])) (hnf : ∀ x ∈ L, ∀ V, Below w.heap.size w V → Calls Tryz.prog 97 #[.agg (Pm x.1 x.2.1 x.2.2), .pointer (some ⟨b, 0, none⟩)] V fun e V' => e = .returned (.bool (B x)) ∧ Below V.heap.size V V') :
    Calls Tryz.prog 125 #[.slice p L.length c, .func (.func 126) #[] #[.pointer (some ⟨q, 0, none⟩)]] w fun e w' => e = .returned (.bool (!(L.all B))) ∧ Below w.heap.size w w' := by
  have T := Lib.hid (idx_V b B p c L hL q w hp hq hnf)
  obtain ⟨y, hy⟩ : ∃ y, (!(L.all B)) = y := ⟨_, rfl⟩
  rw [hy] at T ⊢
  obtain ⟨n, hn⟩ : ∃ n, L.length = n := ⟨_, rfl⟩
  rw [hn] at T ⊢
  clear hp hq hn hnf hy hL
  go_enter Tryz.func125, Tryz.ntmps125
  go_wp2_with (go_at_call 145; refine T.out.mono ?_; rintro e V ⟨⟨x, rfl, hx⟩, hV⟩; have HV := Lib.hid hV; have HX := Lib.hid hx; clear hV hx)
  go_ret
  exact ⟨by rw [← HX.out]; rfl, HV.out⟩
set_option maxRecDepth 100000 in
set_option maxHeartbeats 2000000 in
theorem are_V (b : Nat) (B : P3 → Bool) (p : Option Addr) (c : Nat) (L : List P3) (hL : L.length ≤ 1048576) (w : World) (hp : PsAt w p L) (hnf : ∀ x ∈ L, ∀ V, Below w.heap.size w V → Calls Tryz.prog 97 #[.agg (Pm x.1 x.2.1 x.2.2), .pointer (some ⟨b, 0, none⟩)] V fun e V' => e = .returned (.bool (B x)) ∧ Below V.heap.size V V') :
    Calls Tryz.prog 96 #[.slice p L.length c, .func (.func 97) #[] #[.pointer (some ⟨b, 0, none⟩)]] w fun e w' => e = .returned (.bool (decide (L.length ≤ 6) && L.all B)) ∧ Below w.heap.size w w' := by
  obtain ⟨W, hW, z, c1, hB⟩ := one_cellA (.func (.func 97) #[] #[.pointer (some ⟨b, 0, none⟩)]) 161 w
  have T := Lib.hid (con_V b B p c L hL w.heap.size W (hp.keep hB) c1 (fun x hx V hV => hnf x hx V (hB.trans (hV.mono hB.size))))
  have HB := Lib.hid hB
  have hmf : ∀ (fn : Fn) (first cap : Array Value) (w : World), (Instr.makeFunc fn first cap).run Tryz.prog w = .ok (.func fn first cap) w := fun _ _ _ _ => rfl
  obtain ⟨y, hy⟩ : ∃ y, L.all B = y := ⟨_, rfl⟩
  rw [hy] at T ⊢
  obtain ⟨n, hn⟩ : ∃ n, L.length = n := ⟨_, rfl⟩
  rw [hn] at T ⊢
  rw [hn] at hL
  clear hp hn hnf hy c1 hB z
  by_cases h6 : n ≤ 6
  · have hi : (n : Int) ≤ 6 := by omega
    rw [show decide (n ≤ 6) = true by simpa using h6, Bool.true_and]
    go_enter Tryz.func96, Tryz.ntmps96
    go_upto_region 1 with (fail)
    try rw [hW]
    clear hW
    go_wp2_with (go_at_call 125; refine T.out.mono ?_; rintro e V ⟨rfl, hV⟩; have HV := Lib.hid (HB.out.trans (hV.mono HB.out.size)); clear hV)
    go_ret
    exact ⟨by simp, HV.out⟩
  · have hi : ¬ (n : Int) ≤ 6 := by omega
    rw [show decide (n ≤ 6) = false by simpa using h6, Bool.false_and]
    go_enter Tryz.func96, Tryz.ntmps96
    go_upto_region 1 with (fail)
    try rw [hW]
    clear hW
    go_wp2
    go_ret
    exact ⟨rfl, HB.out⟩

set_option maxRecDepth 100000 in
set_option maxHeartbeats 4000000 in
theorem implValidPermits_any (G : Gd) (pw : Option Addr) (cw : Nat) (Lw : List T2) (hLw : Lw.length ≤ 1048576) (hOw : ∀ e ∈ Lw, okT2 e) (p : Option Addr) (c : Nat) (L : List P3) (hL : L.length ≤ 1048576) (hO : ∀ e ∈ L, okPQ e) (w : World) (hpw : TsAt w pw Lw) (hp : PsAt w p L) (hG : GdOk G) (hT : TabAt w) :
    Calls Tryz.prog 64 #[.agg (OfA ⟨G, pw, Lw.length, cw⟩), .slice p L.length c] w fun e w' => e = .returned (.bool (prmB G Lw L)) ∧ Below w.heap.size w w' := by
  obtain ⟨W, hW, hs, b1, hB⟩ := obox1 ⟨G, pw, Lw.length, cw⟩ 41 w
  have hlt := tab_lt hT
  have r1 := b1.range
  have T0 := Lib.hid (implValidOffice_any G pw cw Lw hLw hOw W (hpw.keep hB) hG (hT.below hB hlt))
  have HMF : ∀ (fn : Fn) (first cap : Array Value) (w : World), (Instr.makeFunc fn first cap).run Tryz.prog w = .ok (.func fn first cap) w := fun _ _ _ _ => rfl
  have TA := Lib.hid (fun (hv : validB G = true) V (hV : Below W.heap.size W V) => are_V w.heap.size (pmB G) p c L hL V (hp.keep (hB.trans (hV.mono hB.size))) (fun x hx V' hV' => valOne G w.heap.size x (hO x hx) hv hG V' ((b1.grd.below (hV.trans (hV'.mono hV.size)) (by omega)).at') (by have := (hV.trans (hV'.mono hV.size)).size; omega)))
  have HE := Lib.hid (show ∀ b1, ofB G Lw = b1 → prmB G Lw L = (b1 && (decide (L.length ≤ 6) && L.all (pmB G))) from fun b1 h1 => by unfold prmB; rw [h1])
  have HV := Lib.hid (show ofB G Lw = true → validB G = true from fun h => by unfold ofB at h; rw [Bool.and_eq_true] at h; exact h.1)
  have HB := Lib.hid hB
  obtain ⟨B0, hB0⟩ : ∃ B0 : Ofc, (⟨G, pw, Lw.length, cw⟩ : Ofc) = B0 := ⟨_, rfl⟩
  rw [hB0] at r1 T0 hW ⊢
  obtain ⟨n, hn⟩ : ∃ n, L.length = n := ⟨_, rfl⟩
  rw [hn] at TA HE ⊢
  clear b1 hs hp hpw hB hB0 hn hOw hO hG hT hlt
  cases ho : ofB G Lw
  · rw [ho] at T0
    have EE := Lib.hid (HE.out _ ho)
    clear ho HE TA HV
    go_enter Tryz.func64, Tryz.ntmps64
    go_upto_region 1 with (fail)
    try rw [hW]
    clear hW
    go_wp2_with (first | (refine ldS 41 rfl ?_; refine wpList_load_mid rfl 41 _ rfl w.heap.size 0 rfl (OfL B0) _ r1 Tryz.underlying41 rfl (by rw [OfL_length]; exact infoOffice) ?_) | (go_at_call 95; refine T0.out.mono ?_; rintro e V ⟨rfl, hV⟩; have HV := Lib.hid (HB.out.trans (hV.mono HB.out.size)); clear hV r1))
    go_ret
    exact ⟨by rw [EE.out]; rfl, HV.out⟩
  rw [ho] at T0
  obtain ⟨y, hy⟩ : ∃ y, (decide (n ≤ 6) && L.all (pmB G)) = y := ⟨_, rfl⟩
  have TA2 := Lib.hid (TA.out (HV.out ho))
  have EE := Lib.hid (HE.out _ ho)
  rw [hy] at TA2 EE
  clear ho HE TA HV hy
  go_enter Tryz.func64, Tryz.ntmps64
  go_upto_region 1 with (fail)
  try rw [hW]
  clear hW
  go_wp2_with (first | (refine ldS 41 rfl ?_; refine wpList_load_mid rfl 41 _ rfl w.heap.size 0 rfl (OfL B0) _ r1 Tryz.underlying41 rfl (by rw [OfL_length]; exact infoOffice) ?_) | (go_at_call 95; refine T0.out.mono ?_; rintro e V ⟨rfl, hV⟩; have HV0 := Lib.hid hV; clear hV r1) | (go_at_call 96; refine (TA2.out _ HV0.out).mono ?_; rintro e V2 ⟨rfl, hV⟩; have HV := Lib.hid (HB.out.trans ((HV0.out.trans (hV.mono HV0.out.size)).mono HB.out.size)); clear hV))
  go_ret
  exact ⟨by rw [EE.out]; simp, HV.out⟩
end Go.Proofs.YtaghnminpfgdcaaGreatDoor
