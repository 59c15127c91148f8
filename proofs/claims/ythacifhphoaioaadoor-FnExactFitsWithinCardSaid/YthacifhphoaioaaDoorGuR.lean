/- The best guess, the model's. Condition: levels and numbers fit their kinds. -/
import Derived.Test.YthacifhphoaioaaDoorFlA
import Derived.Test.YthacifhphoaioaaDoorGue
namespace Go.Proofs.YthacifhphoaioaaDoor
open Go Go.RowKit Ieee
set_option linter.unusedSimpArgs false
set_option linter.unusedVariables false
attribute [local go_sem] run_store_f32

/-- The misfit of a guess. -/
def guO (R : Nat) (X Y x y : Int) (L : List R2) (G : List A2) (j : Nat) : Option Nat := match G[j]? with | some a => mf a.1 a.2 R X Y x y L L.length | none => none
theorem guO_at {R : Nat} {X Y x y : Int} {L : List R2} {G : List A2} {j : Nat} {a : A2} (ha : G[j]? = some a) : guO R X Y x y L G j = mf a.1 a.2 R X Y x y L L.length := by unfold guO; rw [ha]
theorem gue_no {G : List A2} {X Y : Int} {R : Nat} {x y : Int} {L : List R2} (h : allAq G = false) : gueB G X Y R x y L = false := by unfold gueB; rw [h]; rfl
theorem gue_ask {G : List A2} {X Y : Int} {R : Nat} {x y : Int} {L : List R2} {j : Nat} {a : A2} (h : gueB G X Y R x y L = true) (ha : G[j]? = some a) : askB a.1 a.2 X Y R x y L = true := by
  unfold gueB at h
  simp only [Bool.and_eq_true] at h
  unfold askB
  rw [allAq_at h.1.1 ha, h.1.2, h.2]
  rfl
def gueI (k : Option Nat) (i : Nat) : Nat := if k = none then i else 0
def gueO (k : Option Nat) (o : Option Nat) : Option Nat := if k = none then o else num .f32 0
/-- What BestGuess answers. -/
def GuV (G : List A2) (R : Nat) (X Y x y : Int) (L : List R2) (e : Ending) : Prop := ∃ r, e = .returned (.tuple #[.int .i64 (gueI (gueK (gueB G X Y R x y L) G.length) (flI (guO R X Y x y L G) G.length) : Nat), .float .f32 r, .int .i64 (codeE (gueK (gueB G X Y R x y L) G.length))]) ∧ num .f32 r = gueO (gueK (gueB G X Y R x y L) G.length) (guO R X Y x y L G (flI (guO R X Y x y L G) G.length))
theorem index_aq0 {op : Oper} {a : Act} {x y : Operand} {T : TypeId} {b o n c : Nat} (ho : op.op = .indexAddr T x y) (hT : T = 60 ∨ T = 57) (hx : a.eval x = .slice (some ⟨b, o, none⟩) n c) (hy : a.eval y = .int .i64 0) (hk : 0 < n) (w : World) :
    (execOp a.eval op).run Tryd.prog w = .ok (.value (.pointer (some ⟨b, o, none⟩))) w := by
  have h := index_aq (k := 0) ho hT hx hy hk w
  rwa [Nat.zero_mul, Nat.add_zero] at h
theorem gue1 {m : Nat → Option Nat} : flI m 1 = 0 := by
  show (if ltO (m 0) (m (flI m 0)) = true then 0 else flI m 0) = 0
  split <;> rfl
set_option maxRecDepth 100000 in
set_option maxHeartbeats 4000000 in
theorem specGuesses_any (pg : Option Addr) (cg : Nat) (G : List A2) (hG : G.length ≤ 1048576) (X Y : Int) (R : Nat) (x y : Int) (p : Option Addr) (c : Nat) (L : List R2) (hL : L.length ≤ 1048576) (hX : -128 ≤ X ∧ X ≤ 127) (hY : -128 ≤ Y ∧ Y ≤ 127) (hx : -128 ≤ x ∧ x ≤ 127) (hy : -128 ≤ y ∧ y ≤ 127) (w : World) (hg : AsAt w pg G) (hp : RsAt w p L) :
    Calls Tryd.prog 63 #[.slice pg G.length cg, .agg (Ste X Y R x y), .slice p L.length c] w fun e w' => e = .returned (.int .i64 (codeE (gueK (gueB G X Y R x y L) G.length))) ∧ Below w.heap.size w w' := by
  have B0 : Below w.heap.size w (w.alloc (.cells (Ste X Y R x y) 38)) := (Below.refl _ _).alloc (Nat.le_refl _) _
  have hrow := heap_alloc_last w (.cells (Ste X Y R x y) 38)
  have s0 := cell_of_row _ _ 0 _ _ _ hrow
  have s1 := cell_of_row _ _ 1 _ _ _ hrow
  have s2 := cell_of_row _ _ 2 _ _ _ hrow
  have s3 := cell_of_row _ _ 3 _ _ _ hrow
  have s4 := cell_of_row _ _ 4 _ _ _ hrow
  have BB := Lib.hid B0
  have PG := Lib.hid hg
  have T2 := fun V => l04Site_any X Y R x y hX hY hx hy V
  have T3 := Lib.hid (fun V (hV : Below w.heap.size w V) => l04Ok_any p c L hL V (hp.keep hV))
  obtain ⟨m, hm⟩ : ∃ m, G.length = m := ⟨_, rfl⟩
  have HN := Lib.hid hm
  obtain ⟨n, hn⟩ : ∃ n, L.length = n := ⟨_, rfl⟩
  rw [hm] at hG ⊢
  rw [hn] at hL T3 ⊢
  clear hm hn hrow B0 hp hg
  simp only [Ste] at T2 BB s0 s1 s2 s3 s4 ⊢
  have e00 : ((0 : Nat) : Int) = 0 := rfl
  cases h2 : stB X Y R x y
  · rw [h2] at T2
    have HF := Lib.hid (show gueB G X Y R x y L = false by unfold gueB; rw [h2]; cases allAq G <;> rfl)
    clear T3
    · go_enter Tryd.func63, Tryd.ntmps63
      go_upto_region 3 with (go_at_call 45; refine (T2 _).mono ?_; rintro e V1 ⟨rfl, hq1⟩; have Q1 := Lib.hid (BB.out.trans (hq1.mono BB.out.size)); clear hq1)
      clear s0 s1 s2 s3 s4

      go_loopw [7, 8] (fun (ok i : Value) (wr : World) => ∃ (k : Nat) (b : Bool), k ≤ m ∧ i = .int .i64 (k : Int) ∧ ok = .bool b ∧ Hid (b = true → stB X Y R x y = true ∧ okRs L = true ∧ ∀ (j : Nat) (a : A2), j < k → G[j]? = some a → aqB a.1 a.2 = true) ∧ Hid (b = false → gueB G X Y R x y L = false) ∧ Hid (Below w.heap.size w wr)) (fun _ i _ => m - (intOf i).toNat)
      case atStart => exact ⟨0, false, by omega, rfl, rfl, Lib.hid (fun h => by cases h), Lib.hid (fun _ => HF.out), Q1⟩
      case round =>
        obtain ⟨k, b, hk, rfl, rfl, hA, hN, hB⟩ := hrel
        cases b
        · have HE := Lib.hid (show (1 : Int) = codeE (gueK (gueB G X Y R x y L) m) by rw [hN.out rfl]; rfl)
          clear hN hA
          by_cases hlt : k < m
          · go_wp2
            go_ret
            exact ⟨by first | (rw [← HE.out]; done) | (rw [← HE.out]; rfl), hB.out⟩
          · obtain rfl : k = m := by omega
            go_wp2
            go_ret
            exact ⟨by first | (rw [← HE.out]; done) | (rw [← HE.out]; rfl), hB.out⟩
        · obtain ⟨h2, h3, hall⟩ := hA.out rfl
          have H2 := Lib.hid h2
          have H3 := Lib.hid h3
          have HALL := Lib.hid hall
          clear hA hN h2 h3 hall
          by_cases hlt : k < m
          · have hki : (k : Int) < m := by omega
            obtain ⟨a, ha⟩ : ∃ a, G[k]? = some a := ⟨_, List.getElem?_eq_getElem (by rw [HN.out]; exact hlt)⟩
            obtain ⟨b, o, rfl, hr⟩ := (PG.out.keep hB.out) k a ha
            have c0 : wr.cell? ⟨b, o + k * 2, none⟩ = some (.float .f32 a.1) := hr 0 _ rfl
            have c1 : wr.cell? ⟨b, o + k * 2 + 1, none⟩ = some (.float .f32 a.2) := hr 1 _ rfl
            have T1 := Lib.hid (fun V => l03Aq_any a.1 a.2 V)
            simp only [Aq] at T1
            have RF := Lib.hid (show aqB a.1 a.2 = false → gueB G X Y R x y L = false from fun h => gue_no (allAq_no ha h))
            have RT := Lib.hid (show aqB a.1 a.2 = true → stB X Y R x y = true ∧ okRs L = true ∧ ∀ (j : Nat) (a : A2), j < k + 1 → G[j]? = some a → aqB a.1 a.2 = true from fun hq => ⟨H2.out, H3.out, fun j a' hj ha' => by
              by_cases e : j = k
              · subst e
                rw [ha] at ha'
                cases ha'
                exact hq
              · exact HALL.out j a' (by omega) ha'⟩)
            clear hr ha
            obtain ⟨q, hq⟩ : ∃ q, aqB a.1 a.2 = q := ⟨_, rfl⟩
            rw [hq] at T1 RF RT
            clear hq
            go_wp2_with (go_at_call 44; refine (T1.out _).mono ?_; rintro e V1 ⟨rfl, hq1⟩; have Q1 := Lib.hid (hB.out.trans (hq1.mono hB.out.size)); clear hq1)
            go_roundw
            case rel => exact ⟨k + 1, q, by omega, by go_num, rfl, RT, RF, Q1⟩
            case measure => simp [intOf]; omega
          · obtain rfl : k = m := by omega
            have hb : gueB G X Y R x y L = true := by unfold gueB; rw [allAq_yes HN.out HALL.out, H2.out, H3.out]; rfl
            by_cases h20 : 1 ≤ k ∧ k ≤ 20
            · have HE := Lib.hid (show (0 : Int) = codeE (gueK (gueB G X Y R x y L) k) by rw [hb]; unfold gueK; rw [if_pos rfl, if_pos h20]; rfl)
              have h1 : (1 : Int) ≤ k := by omega
              have h3 : (k : Int) ≤ 20 := by omega
              have T4 := fun V => l00In_is (k : Int) 1 20 true (by simp only [h1, h3, decide_true, Bool.and_self]) V
              clear hb h20
              go_wp2_with (go_at_call 46; refine (T4 _).mono ?_; rintro e V1 ⟨rfl, hV⟩; rw [← hV]; clear hV)
              go_ret
              exact ⟨by first | (rw [← HE.out]; done) | (rw [← HE.out]; rfl), hB.out⟩
            · have HE := Lib.hid (show (2 : Int) = codeE (gueK (gueB G X Y R x y L) k) by rw [hb]; unfold gueK; rw [if_pos rfl, if_neg h20]; rfl)
              have h1 : (decide ((1 : Int) ≤ k) && decide ((k : Int) ≤ 20)) = false := by
                rcases Nat.lt_or_ge k 1 with h | h
                · rw [decide_eq_false (by omega : ¬ (1 : Int) ≤ k)]; rfl
                · rw [decide_eq_false (by omega : ¬ (k : Int) ≤ 20), Bool.and_false]
              have T4 := fun V => l00In_is (k : Int) 1 20 false h1 V
              clear hb h20
              go_wp2_with (go_at_call 46; refine (T4 _).mono ?_; rintro e V1 ⟨rfl, hV⟩; rw [← hV]; clear hV)
              go_ret
              exact ⟨by first | (rw [← HE.out]; done) | (rw [← HE.out]; rfl), hB.out⟩

  · rw [h2] at T2
    cases h3 : okRs L
    · rw [h3] at T3
      have HF := Lib.hid (show gueB G X Y R x y L = false by unfold gueB; rw [h3]; cases allAq G <;> cases stB X Y R x y <;> rfl)
      go_enter Tryd.func63, Tryd.ntmps63
      go_upto_region 3 with (first | (go_at_call 45; refine (T2 _).mono ?_; rintro e V1 ⟨rfl, hq1⟩; have Q1 := Lib.hid (BB.out.trans (hq1.mono BB.out.size)); clear hq1) | (go_at_call 53; refine (T3.out _ Q1.out).mono ?_; rintro e V2 ⟨rfl, hq2⟩; have Q2 := Lib.hid (Q1.out.trans (hq2.mono Q1.out.size)); clear hq2))
      clear s0 s1 s2 s3 s4

      go_loopw [7, 8] (fun (ok i : Value) (wr : World) => ∃ (k : Nat) (b : Bool), k ≤ m ∧ i = .int .i64 (k : Int) ∧ ok = .bool b ∧ Hid (b = true → stB X Y R x y = true ∧ okRs L = true ∧ ∀ (j : Nat) (a : A2), j < k → G[j]? = some a → aqB a.1 a.2 = true) ∧ Hid (b = false → gueB G X Y R x y L = false) ∧ Hid (Below w.heap.size w wr)) (fun _ i _ => m - (intOf i).toNat)
      case atStart => exact ⟨0, false, by omega, rfl, rfl, Lib.hid (fun h => by cases h), Lib.hid (fun _ => HF.out), Q2⟩
      case round =>
        obtain ⟨k, b, hk, rfl, rfl, hA, hN, hB⟩ := hrel
        cases b
        · have HE := Lib.hid (show (1 : Int) = codeE (gueK (gueB G X Y R x y L) m) by rw [hN.out rfl]; rfl)
          clear hN hA
          by_cases hlt : k < m
          · go_wp2
            go_ret
            exact ⟨by first | (rw [← HE.out]; done) | (rw [← HE.out]; rfl), hB.out⟩
          · obtain rfl : k = m := by omega
            go_wp2
            go_ret
            exact ⟨by first | (rw [← HE.out]; done) | (rw [← HE.out]; rfl), hB.out⟩
        · obtain ⟨h2, h3, hall⟩ := hA.out rfl
          have H2 := Lib.hid h2
          have H3 := Lib.hid h3
          have HALL := Lib.hid hall
          clear hA hN h2 h3 hall
          by_cases hlt : k < m
          · have hki : (k : Int) < m := by omega
            obtain ⟨a, ha⟩ : ∃ a, G[k]? = some a := ⟨_, List.getElem?_eq_getElem (by rw [HN.out]; exact hlt)⟩
            obtain ⟨b, o, rfl, hr⟩ := (PG.out.keep hB.out) k a ha
            have c0 : wr.cell? ⟨b, o + k * 2, none⟩ = some (.float .f32 a.1) := hr 0 _ rfl
            have c1 : wr.cell? ⟨b, o + k * 2 + 1, none⟩ = some (.float .f32 a.2) := hr 1 _ rfl
            have T1 := Lib.hid (fun V => l03Aq_any a.1 a.2 V)
            simp only [Aq] at T1
            have RF := Lib.hid (show aqB a.1 a.2 = false → gueB G X Y R x y L = false from fun h => gue_no (allAq_no ha h))
            have RT := Lib.hid (show aqB a.1 a.2 = true → stB X Y R x y = true ∧ okRs L = true ∧ ∀ (j : Nat) (a : A2), j < k + 1 → G[j]? = some a → aqB a.1 a.2 = true from fun hq => ⟨H2.out, H3.out, fun j a' hj ha' => by
              by_cases e : j = k
              · subst e
                rw [ha] at ha'
                cases ha'
                exact hq
              · exact HALL.out j a' (by omega) ha'⟩)
            clear hr ha
            obtain ⟨q, hq⟩ : ∃ q, aqB a.1 a.2 = q := ⟨_, rfl⟩
            rw [hq] at T1 RF RT
            clear hq
            go_wp2_with (go_at_call 44; refine (T1.out _).mono ?_; rintro e V1 ⟨rfl, hq1⟩; have Q1 := Lib.hid (hB.out.trans (hq1.mono hB.out.size)); clear hq1)
            go_roundw
            case rel => exact ⟨k + 1, q, by omega, by go_num, rfl, RT, RF, Q1⟩
            case measure => simp [intOf]; omega
          · obtain rfl : k = m := by omega
            have hb : gueB G X Y R x y L = true := by unfold gueB; rw [allAq_yes HN.out HALL.out, H2.out, H3.out]; rfl
            by_cases h20 : 1 ≤ k ∧ k ≤ 20
            · have HE := Lib.hid (show (0 : Int) = codeE (gueK (gueB G X Y R x y L) k) by rw [hb]; unfold gueK; rw [if_pos rfl, if_pos h20]; rfl)
              have h1 : (1 : Int) ≤ k := by omega
              have h3 : (k : Int) ≤ 20 := by omega
              have T4 := fun V => l00In_is (k : Int) 1 20 true (by simp only [h1, h3, decide_true, Bool.and_self]) V
              clear hb h20
              go_wp2_with (go_at_call 46; refine (T4 _).mono ?_; rintro e V1 ⟨rfl, hV⟩; rw [← hV]; clear hV)
              go_ret
              exact ⟨by first | (rw [← HE.out]; done) | (rw [← HE.out]; rfl), hB.out⟩
            · have HE := Lib.hid (show (2 : Int) = codeE (gueK (gueB G X Y R x y L) k) by rw [hb]; unfold gueK; rw [if_pos rfl, if_neg h20]; rfl)
              have h1 : (decide ((1 : Int) ≤ k) && decide ((k : Int) ≤ 20)) = false := by
                rcases Nat.lt_or_ge k 1 with h | h
                · rw [decide_eq_false (by omega : ¬ (1 : Int) ≤ k)]; rfl
                · rw [decide_eq_false (by omega : ¬ (k : Int) ≤ 20), Bool.and_false]
              have T4 := fun V => l00In_is (k : Int) 1 20 false h1 V
              clear hb h20
              go_wp2_with (go_at_call 46; refine (T4 _).mono ?_; rintro e V1 ⟨rfl, hV⟩; rw [← hV]; clear hV)
              go_ret
              exact ⟨by first | (rw [← HE.out]; done) | (rw [← HE.out]; rfl), hB.out⟩

    · rw [h3] at T3
      go_enter Tryd.func63, Tryd.ntmps63
      go_upto_region 3 with (first | (go_at_call 45; refine (T2 _).mono ?_; rintro e V1 ⟨rfl, hq1⟩; have Q1 := Lib.hid (BB.out.trans (hq1.mono BB.out.size)); clear hq1) | (go_at_call 53; refine (T3.out _ Q1.out).mono ?_; rintro e V2 ⟨rfl, hq2⟩; have Q2 := Lib.hid (Q1.out.trans (hq2.mono Q1.out.size)); clear hq2))
      clear s0 s1 s2 s3 s4

      go_loopw [7, 8] (fun (ok i : Value) (wr : World) => ∃ (k : Nat) (b : Bool), k ≤ m ∧ i = .int .i64 (k : Int) ∧ ok = .bool b ∧ Hid (b = true → stB X Y R x y = true ∧ okRs L = true ∧ ∀ (j : Nat) (a : A2), j < k → G[j]? = some a → aqB a.1 a.2 = true) ∧ Hid (b = false → gueB G X Y R x y L = false) ∧ Hid (Below w.heap.size w wr)) (fun _ i _ => m - (intOf i).toNat)
      case atStart => exact ⟨0, true, by omega, rfl, rfl, Lib.hid (fun _ => ⟨h2, h3, fun j a h => by omega⟩), Lib.hid (fun h => by cases h), Q2⟩
      case round =>
        obtain ⟨k, b, hk, rfl, rfl, hA, hN, hB⟩ := hrel
        cases b
        · have HE := Lib.hid (show (1 : Int) = codeE (gueK (gueB G X Y R x y L) m) by rw [hN.out rfl]; rfl)
          clear hN hA
          by_cases hlt : k < m
          · go_wp2
            go_ret
            exact ⟨by first | (rw [← HE.out]; done) | (rw [← HE.out]; rfl), hB.out⟩
          · obtain rfl : k = m := by omega
            go_wp2
            go_ret
            exact ⟨by first | (rw [← HE.out]; done) | (rw [← HE.out]; rfl), hB.out⟩
        · obtain ⟨h2, h3, hall⟩ := hA.out rfl
          have H2 := Lib.hid h2
          have H3 := Lib.hid h3
          have HALL := Lib.hid hall
          clear hA hN h2 h3 hall
          by_cases hlt : k < m
          · have hki : (k : Int) < m := by omega
            obtain ⟨a, ha⟩ : ∃ a, G[k]? = some a := ⟨_, List.getElem?_eq_getElem (by rw [HN.out]; exact hlt)⟩
            obtain ⟨b, o, rfl, hr⟩ := (PG.out.keep hB.out) k a ha
            have c0 : wr.cell? ⟨b, o + k * 2, none⟩ = some (.float .f32 a.1) := hr 0 _ rfl
            have c1 : wr.cell? ⟨b, o + k * 2 + 1, none⟩ = some (.float .f32 a.2) := hr 1 _ rfl
            have T1 := Lib.hid (fun V => l03Aq_any a.1 a.2 V)
            simp only [Aq] at T1
            have RF := Lib.hid (show aqB a.1 a.2 = false → gueB G X Y R x y L = false from fun h => gue_no (allAq_no ha h))
            have RT := Lib.hid (show aqB a.1 a.2 = true → stB X Y R x y = true ∧ okRs L = true ∧ ∀ (j : Nat) (a : A2), j < k + 1 → G[j]? = some a → aqB a.1 a.2 = true from fun hq => ⟨H2.out, H3.out, fun j a' hj ha' => by
              by_cases e : j = k
              · subst e
                rw [ha] at ha'
                cases ha'
                exact hq
              · exact HALL.out j a' (by omega) ha'⟩)
            clear hr ha
            obtain ⟨q, hq⟩ : ∃ q, aqB a.1 a.2 = q := ⟨_, rfl⟩
            rw [hq] at T1 RF RT
            clear hq
            go_wp2_with (go_at_call 44; refine (T1.out _).mono ?_; rintro e V1 ⟨rfl, hq1⟩; have Q1 := Lib.hid (hB.out.trans (hq1.mono hB.out.size)); clear hq1)
            go_roundw
            case rel => exact ⟨k + 1, q, by omega, by go_num, rfl, RT, RF, Q1⟩
            case measure => simp [intOf]; omega
          · obtain rfl : k = m := by omega
            have hb : gueB G X Y R x y L = true := by unfold gueB; rw [allAq_yes HN.out HALL.out, H2.out, H3.out]; rfl
            by_cases h20 : 1 ≤ k ∧ k ≤ 20
            · have HE := Lib.hid (show (0 : Int) = codeE (gueK (gueB G X Y R x y L) k) by rw [hb]; unfold gueK; rw [if_pos rfl, if_pos h20]; rfl)
              have h1 : (1 : Int) ≤ k := by omega
              have h3 : (k : Int) ≤ 20 := by omega
              have T4 := fun V => l00In_is (k : Int) 1 20 true (by simp only [h1, h3, decide_true, Bool.and_self]) V
              clear hb h20
              go_wp2_with (go_at_call 46; refine (T4 _).mono ?_; rintro e V1 ⟨rfl, hV⟩; rw [← hV]; clear hV)
              go_ret
              exact ⟨by first | (rw [← HE.out]; done) | (rw [← HE.out]; rfl), hB.out⟩
            · have HE := Lib.hid (show (2 : Int) = codeE (gueK (gueB G X Y R x y L) k) by rw [hb]; unfold gueK; rw [if_pos rfl, if_neg h20]; rfl)
              have h1 : (decide ((1 : Int) ≤ k) && decide ((k : Int) ≤ 20)) = false := by
                rcases Nat.lt_or_ge k 1 with h | h
                · rw [decide_eq_false (by omega : ¬ (1 : Int) ≤ k)]; rfl
                · rw [decide_eq_false (by omega : ¬ (k : Int) ≤ 20), Bool.and_false]
              have T4 := fun V => l00In_is (k : Int) 1 20 false h1 V
              clear hb h20
              go_wp2_with (go_at_call 46; refine (T4 _).mono ?_; rintro e V1 ⟨rfl, hV⟩; rw [← hV]; clear hV)
              go_ret
              exact ⟨by first | (rw [← HE.out]; done) | (rw [← HE.out]; rfl), hB.out⟩


theorem mf_ex (T S R : Nat) (X Y x y : Int) (L : List R2) : ∀ n, ∃ r, num .f32 r = mf T S R X Y x y L n
  | 0 => ⟨0, rfl⟩
  | n + 1 => fop_any _ rfl _ _
theorem guO_ex {R : Nat} {X Y x y : Int} {L : List R2} {G : List A2} (j : Nat) : ∃ r, num .f32 r = guO R X Y x y L G j := by
  unfold guO
  split
  · exact mf_ex _ _ _ _ _ _ _ _ _
  · exact none_ex
set_option maxRecDepth 100000 in
set_option maxHeartbeats 4000000 in
theorem specBest_any (pg : Option Addr) (cg : Nat) (G : List A2) (hG : G.length ≤ 1048576) (X Y : Int) (R : Nat) (x y : Int) (p : Option Addr) (c : Nat) (L : List R2) (hL : L.length ≤ 1048576) (hX : -128 ≤ X ∧ X ≤ 127) (hY : -128 ≤ Y ∧ Y ≤ 127) (hx : -128 ≤ x ∧ x ≤ 127) (hy : -128 ≤ y ∧ y ≤ 127) (hb : gueB G X Y R x y L = true) (h0 : 0 < G.length) (hok : ∀ a ∈ G, okA a) (hO : ∀ e ∈ L, -32768 ≤ e.2 ∧ e.2 ≤ 32767) (w : World) (hg : AsAt w pg G) (hp : RsAt w p L) :
    Calls Tryd.prog 64 #[.slice pg G.length cg, .agg (Ste X Y R x y), .slice p L.length c] w fun e w' => ∃ r, e = .returned (.tuple #[.int .i64 (flI (guO R X Y x y L G) G.length : Nat), .float .f32 r]) ∧ num .f32 r = guO R X Y x y L G (flI (guO R X Y x y L G) G.length) ∧ Below w.heap.size w w' := by
  obtain ⟨z, b0⟩ := laid1 w (.cells (Ste X Y R x y) 38)
  have B0 : Below w.heap.size w (w.alloc (.cells (Ste X Y R x y) 38)) := (Below.refl _ _).alloc (Nat.le_refl _) _
  obtain ⟨W, hW⟩ : ∃ W, (w.alloc (.cells (Ste X Y R x y) 38)) = W := ⟨_, rfl⟩
  rw [hW] at z b0 B0
  have BW := Lib.hid B0
  have PG := Lib.hid hg
  have PP := Lib.hid hp
  have r0 := rangeAt_row b0
  have R0 := Lib.hid r0
  have ZW := Lib.hid z
  have h40 : L.length ≤ 40 := by
    have h := hb
    simp only [gueB, okRs, Bool.and_eq_true, decide_eq_true_eq] at h
    omega
  have T1 := Lib.hid (fun (j : Nat) (a : A2) (ha : G[j]? = some a) (V : World) (hV : RsAt V p L) => show Calls Tryd.prog 66 #[.agg (Aq a.1 a.2), .agg (Ste X Y R x y), .slice p L.length c] V (GvB (guO R X Y x y L G j) V) by
    have ho := hok a (List.mem_of_getElem? ha)
    obtain ⟨p1, p2, p3, p4, p5, p6, p7⟩ := ask_parts ho.1 ho.2 (gue_ask hb ha)
    rw [guO_at ha]
    exact l04Misfit_any X Y R x y a.1 a.2 p c L h40 p1 p2 p3 p4 p5 p6 (fun k e he => ⟨okRs_time p7 k e he, hO e (List.mem_of_getElem? he)⟩) V hV)
  obtain ⟨m, hm⟩ : ∃ m, G.length = m := ⟨_, rfl⟩
  have HN := Lib.hid hm
  obtain ⟨n, hn⟩ : ∃ n, L.length = n := ⟨_, rfl⟩
  rw [hm] at hG h0 ⊢
  rw [hn] at hL T1 ⊢
  clear hm hn B0 hp hg b0 z h40 hb hok hO
  obtain ⟨e, he⟩ : ∃ e, G[0]? = some e := ⟨_, List.getElem?_eq_getElem (by rw [HN.out]; exact h0)⟩
  obtain ⟨b, o, rfl, hr⟩ := (PG.out.keep BW.out) 0 e he
  have hbl := World.block_lt_of_cell? _ _ (hr 0 _ rfl)
  have re := hr
  rw [Nat.zero_mul, Nat.add_zero] at re
  have hlt := h0
  simp only [Ste] at hW ⊢
  go_enter Tryd.func64, Tryd.ntmps64
  go_upto_region 1 with (fail)
  try rw [hW]
  clear hW
  go_upto_region 2 with (fail)
  have zw := ZW.out
  refine wp_region_calm (ops' := regOf Tryd.f64 2) [0, 1, 2, 3, 4, 5, 6] [] .fin (Below (W.heap.size) W) [(0, One (.slice (some ⟨b, o, none⟩) m cg)), (1, One (.pointer (some ⟨b, o, none⟩))), (2, One (.agg (Aq e.1 e.2))), (3, One (.agg (Ste X Y R x y))), (4, One (.slice p n c)), (5, Numv .f32 (guO R X Y x y L G 0)), (6, Numv .f32 (guO R X Y x y L G 0))] (by kernel_rfl) (by kernel_rfl) (by kernel_rfl) (by kernel_rfl) (by kernel_rfl) (by kernel_rfl) (by kernel_rfl) (by kernel_rfl) rfl ((Below.refl _ _).drew) ?_
  refine calm_pure (some 12) (by kernel_rfl) (by kernel_rfl) (by kernel_rfl) (fun _ => by kernel_rfl) ?_
  refine calm_pure (some 13) (by kernel_rfl) (by kernel_rfl) (by kernel_rfl) (fun _ => (index_aq0 (T := 60) (n := m) (c := cg) (x := .tmp 12) (y := .const (.int .i64 0)) (by kernel_rfl) (.inl rfl) (by kernel_rfl) (by kernel_rfl) hlt _)) ?_
  refine calm_load (some 14) 34 (.tmp 13) (b) o _ (by kernel_rfl) (by kernel_rfl) (by kernel_rfl) (by kernel_rfl) (by kernel_rfl) (range_kept re hbl) Tryd.underlying34 rfl (by kernel_rfl) ?_
  refine calm_load (some 15) 38 (.tmp 4) (w.heap.size) 0 _ (by kernel_rfl) (by kernel_rfl) (by kernel_rfl) (by kernel_rfl) (by kernel_rfl) (range_kept r0 (by omega)) Tryd.underlying38 rfl (by kernel_rfl) ?_
  refine calm_pure (some 16) (by kernel_rfl) (by kernel_rfl) (by kernel_rfl) (fun _ => by kernel_rfl) ?_
  refine calm_call (some 17) 66 #[.agg (Aq e.1 e.2), .agg (Ste X Y R x y), .slice p n c] (numv_ne (guO_ex 0)) (by kernel_rfl) (by kernel_rfl) (by kernel_rfl) (fun _ => by kernel_rfl) (fun w' hw' => (T1.out 0 e he w' (PP.out.keep (BW.out.trans (hw'.mono BW.out.size)))).mono fun e w2 ⟨r, he, hr, hq⟩ => ⟨_, he, ⟨r, rfl, hr⟩, below_step hw' hq (by have := hw'.size; omega)⟩) ?_
  rintro _ ⟨d0, rfl, hd0⟩
  refine calm_pureV (some 9) (.float .f32 d0) ⟨_, rfl, hd0⟩ (by kernel_rfl) (by kernel_rfl) (by kernel_rfl) (fun _ => by kernel_rfl) ?_
  rintro _ ⟨r9, rfl, hr9⟩
  refine calm_end fun w' hw' => plan_end (Clean.normal ?_)
  have HQ := Lib.hid hw'
  have HD := Lib.hid hr9
  clear hw' he hr re r0 hbl
  simp only [Act.put, List.setIfInBounds_toArray, List.set_cons_zero, List.set_cons_succ]
  go_upto_region 4 with (fail)
  have e00 : ((1 : Nat) : Int) = 1 := rfl
  go_loopw [8, 9, 10] (fun (bi a i : Value) (wr : World) => ∃ (k r : Nat), 1 ≤ k ∧ k ≤ m ∧ i = .int .i64 (k : Int) ∧ bi = .int .i64 (flI (guO R X Y x y L G) k : Nat) ∧ a = .float .f32 r ∧ Hid (num .f32 r = guO R X Y x y L G (flI (guO R X Y x y L G) k)) ∧ Hid (Below W.heap.size W wr)) (fun _ _ i _ => m - (intOf i).toNat)
  case atStart => exact ⟨1, r9, by omega, by omega, rfl, by rw [gue1]; rfl, rfl, by rw [gue1]; exact HD, HQ⟩
  case round =>
    obtain ⟨k, r, hk1, hk, rfl, rfl, rfl, hR, hB⟩ := hrel
    by_cases hlt : k < m
    · have hki : (k : Int) < m := by omega
      obtain ⟨e, he⟩ : ∃ e, G[k]? = some e := ⟨_, List.getElem?_eq_getElem (by rw [HN.out]; exact hlt)⟩
      obtain ⟨b', o', hbo, hr⟩ := (PG.out.keep (BW.out.trans (hB.out.mono BW.out.size))) k e he
      cases hbo
      have hbl := World.block_lt_of_cell? _ _ (hr 0 _ rfl)
      have re := hr
      have zw := ZW.out
      have zz := hB.out.size
      have r0 := range_kept R0.out (by omega) _ hB.out
      go_upto_region 6 with (fail)
      refine wp_region_calm (ops' := regOf Tryd.f64 6) [0, 1, 2, 3, 4, 5, 6, 7] [] .fin (Below (wr.heap.size) wr) [(0, One (.slice (some ⟨b, o, none⟩) m cg)), (1, One (.int .i64 (k : Int))), (2, One (.pointer (some ⟨b, (o + k * 2), none⟩))), (3, One (.agg (Aq e.1 e.2))), (4, One (.agg (Ste X Y R x y))), (5, One (.slice p n c)), (6, Numv .f32 (guO R X Y x y L G k)), (7, Numv .f32 (guO R X Y x y L G k))] (by kernel_rfl) (by kernel_rfl) (by kernel_rfl) (by kernel_rfl) (by kernel_rfl) (by kernel_rfl) (by kernel_rfl) (by kernel_rfl) rfl ((Below.refl _ _).drew) ?_
      refine calm_pure (some 24) (by kernel_rfl) (by kernel_rfl) (by kernel_rfl) (fun _ => by kernel_rfl) ?_
      refine calm_pure (some 25) (by kernel_rfl) (by kernel_rfl) (by kernel_rfl) (fun _ => by kernel_rfl) ?_
      refine calm_pure (some 26) (by kernel_rfl) (by kernel_rfl) (by kernel_rfl) (fun _ => (index_aq (T := 60) (k := k) (n := m) (c := cg) (x := .tmp 24) (y := .tmp 25) (by kernel_rfl) (.inl rfl) (by kernel_rfl) (by kernel_rfl) hlt _)) ?_
      refine calm_load (some 27) 34 (.tmp 26) (b) (o + k * 2) _ (by kernel_rfl) (by kernel_rfl) (by kernel_rfl) (by kernel_rfl) (by kernel_rfl) (range_kept re hbl) Tryd.underlying34 rfl (by kernel_rfl) ?_
      refine calm_load (some 28) 38 (.tmp 4) (w.heap.size) 0 _ (by kernel_rfl) (by kernel_rfl) (by kernel_rfl) (by kernel_rfl) (by kernel_rfl) (range_kept r0 (by omega)) Tryd.underlying38 rfl (by kernel_rfl) ?_
      refine calm_pure (some 29) (by kernel_rfl) (by kernel_rfl) (by kernel_rfl) (fun _ => by kernel_rfl) ?_
      refine calm_call (some 30) 66 #[.agg (Aq e.1 e.2), .agg (Ste X Y R x y), .slice p n c] (numv_ne (guO_ex k)) (by kernel_rfl) (by kernel_rfl) (by kernel_rfl) (fun _ => by kernel_rfl) (fun w' hw' => (T1.out k e he w' (PP.out.keep ((BW.out.trans (hB.out.mono BW.out.size)).trans (hw'.mono (BW.out.trans (hB.out.mono BW.out.size)).size)))).mono fun e w2 ⟨r, he, hr, hq⟩ => ⟨_, he, ⟨r, rfl, hr⟩, below_step hw' hq (by have := hw'.size; omega)⟩) ?_
      rintro _ ⟨d0, rfl, hd0⟩
      refine calm_pureV (some 11) (.float .f32 d0) ⟨_, rfl, hd0⟩ (by kernel_rfl) (by kernel_rfl) (by kernel_rfl) (fun _ => by kernel_rfl) ?_
      rintro _ ⟨r11, rfl, hr11⟩
      refine calm_end fun w' hw' => plan_end (Clean.normal ?_)
      have HQ2 := Lib.hid (hB.out.trans (hw'.mono hB.out.size))
      have HD2 := Lib.hid hr11
      clear hw' he hr re r0 hbl zw zz
      simp only [Act.put, List.setIfInBounds_toArray, List.set_cons_zero, List.set_cons_succ]
      have hcmp : FloatKind.f32.format.order r11 r = ordO (guO R X Y x y L G k) (guO R X Y x y L G (flI (guO R X Y x y L G) k)) := ordO_num HD2.out hR.out
      cases hl : ltO (guO R X Y x y L G k) (guO R X Y x y L G (flI (guO R X Y x y L G) k))
      · have hl2 : (FloatKind.f32.format.order r11 r == some Ordering.lt) = false := by rw [hcmp]; exact hl
        have E := Lib.hid (show flI (guO R X Y x y L G) (k + 1) = flI (guO R X Y x y L G) k by rw [flI, hl]; rfl)
        clear hcmp hl
        go_wp2
        go_roundw
        case rel => exact ⟨k + 1, r, by omega, by omega, by go_num, by rw [E.out], rfl, by rw [E.out]; exact hR, HQ2⟩
        case measure => simp [intOf]; omega
      · have hl2 : (FloatKind.f32.format.order r11 r == some Ordering.lt) = true := by rw [hcmp]; exact hl
        have E := Lib.hid (show flI (guO R X Y x y L G) (k + 1) = k by rw [flI, hl]; rfl)
        clear hcmp hl
        go_wp2
        go_roundw
        case rel => exact ⟨k + 1, r11, by omega, by omega, by go_num, by rw [E.out], rfl, by rw [E.out]; exact HD2, HQ2⟩
        case measure => simp [intOf]; omega
    · obtain rfl : k = m := by omega
      go_wp2
      go_ret2
      exact ⟨r, rfl, hR.out, BW.out.trans (hB.out.mono BW.out.size)⟩
theorem gueK_none {b : Bool} {n : Nat} (h : gueK b n = none) : b = true ∧ 1 ≤ n ∧ n ≤ 20 := by
  unfold gueK at h
  split at h
  · split at h
    · exact ⟨by assumption, by assumption⟩
    · cases h
  · cases h
theorem one_row (X Y : Int) (R : Nat) (x y : Int) (w : World) : ∃ W, (w.alloc (.cells (Ste X Y R x y) 38)) = W ∧ Below w.heap.size w W ∧ ∀ V, Below W.heap.size W V → V.cell? ⟨w.heap.size, 0, none⟩ = some (.int .i8 X) ∧ V.cell? ⟨w.heap.size, 1, none⟩ = some (.int .i8 Y) ∧ V.cell? ⟨w.heap.size, 2, none⟩ = some (.float .f32 R) ∧ V.cell? ⟨w.heap.size, 3, none⟩ = some (.int .i8 x) ∧ V.cell? ⟨w.heap.size, 4, none⟩ = some (.int .i8 y) := by
  obtain ⟨z, b0⟩ := laid1 w (.cells (Ste X Y R x y) 38)
  refine ⟨_, rfl, (Below.refl _ _).alloc (Nat.le_refl _) _, fun V hV => ?_⟩
  have h0 := (hV.block w.heap.size (by omega)).trans b0
  exact ⟨cell_of_row _ _ 0 _ _ _ h0, cell_of_row _ _ 1 _ _ _ h0, cell_of_row _ _ 2 _ _ _ h0, cell_of_row _ _ 3 _ _ _ h0, cell_of_row _ _ 4 _ _ _ h0⟩
set_option maxRecDepth 100000 in
set_option maxHeartbeats 4000000 in
theorem specBG_any (pg : Option Addr) (cg : Nat) (G : List A2) (hG : G.length ≤ 1048576) (X Y : Int) (R : Nat) (x y : Int) (p : Option Addr) (c : Nat) (L : List R2) (hL : L.length ≤ 1048576) (hX : -128 ≤ X ∧ X ≤ 127) (hY : -128 ≤ Y ∧ Y ≤ 127) (hx : -128 ≤ x ∧ x ≤ 127) (hy : -128 ≤ y ∧ y ≤ 127) (hok : ∀ a ∈ G, okA a) (hO : ∀ e ∈ L, -32768 ≤ e.2 ∧ e.2 ≤ 32767) (w : World) (hg : AsAt w pg G) (hp : RsAt w p L) :
    Calls Tryd.prog 29 #[.slice pg G.length cg, .agg (Ste X Y R x y), .slice p L.length c] w fun e w' => GuV G R X Y x y L e ∧ Below w.heap.size w w' := by
  obtain ⟨W, hW, B0, LD⟩ := one_row X Y R x y w
  have BW := Lib.hid B0
  have HLD := Lib.hid LD
  have T1 := specGuesses_any pg cg G hG X Y R x y p c L hL hX hY hx hy W (hg.keep B0) (hp.keep B0)
  have T2 := Lib.hid (fun (hK : gueK (gueB G X Y R x y L) G.length = none) (V : World) (hV : Below W.heap.size W V) => specBest_any pg cg G hG X Y R x y p c L hL hX hY hx hy (gueK_none hK).1 (gueK_none hK).2.1 hok hO V ((hg.keep B0).keep hV) ((hp.keep B0).keep hV))
  obtain ⟨s0, s1, s2, s3, s4⟩ := LD W (Below.refl _ _)
  unfold GuV
  obtain ⟨i0, hi0⟩ : ∃ i, flI (guO R X Y x y L G) G.length = i := ⟨_, rfl⟩
  rw [hi0] at T2 ⊢
  obtain ⟨o, ho⟩ : ∃ o, guO R X Y x y L G i0 = o := ⟨_, rfl⟩
  rw [ho] at T2 ⊢
  obtain ⟨k, hk⟩ : ∃ k, gueK (gueB G X Y R x y L) G.length = k := ⟨_, rfl⟩
  have hk5 : ∀ i, k = some i → i < 5 := by rw [← hk]; exact gueK_lt
  rw [hk] at T1 T2 ⊢
  obtain ⟨m, hm⟩ : ∃ m, G.length = m := ⟨_, rfl⟩
  obtain ⟨n, hn⟩ : ∃ n, L.length = n := ⟨_, rfl⟩
  rw [hm, hn] at T1 T2 ⊢
  rw [hm] at hG
  rw [hn] at hL
  clear hg hp B0 LD hok hO hi0 ho hk hm hn
  simp only [Ste] at T1 T2 hW ⊢
  rcases k with _ | i
  · rw [show codeE none = 0 from rfl] at T1 ⊢
    have T2N := Lib.hid (T2.out rfl)
    clear T2
    go_enter Tryd.func29, Tryd.ntmps29
    go_upto_region 1 with (fail)
    try rw [hW]
    clear hW
    go_wp2_with (first | (go_at_call 63; refine T1.mono ?_; rintro e V1 ⟨rfl, hq1⟩; have Q1 := Lib.hid hq1; obtain ⟨r0, r1, r2, r3, r4⟩ := HLD.out _ hq1; clear hq1 s0 s1 s2 s3 s4) | (go_at_call 64; refine (T2N.out _ Q1.out).mono ?_; rintro e V2 ⟨r, rfl, hr, hq2⟩; have HR := Lib.hid hr; have Q2 := Lib.hid (Q1.out.trans (hq2.mono Q1.out.size)); clear hq2 hr))
    go_ret3
    exact ⟨⟨r, rfl, HR.out⟩, BW.out.trans (Q2.out.mono BW.out.size)⟩
  · have hi := hk5 i rfl
    have hc0 : ¬ codeE (some i) = 0 := by
      rcases i with _ | _ | _ | _ | _ | i <;> first | (exfalso; omega) | (unfold codeE; decide)
    clear hk5 hi T2
    have HE := Lib.hid (show gueI (some i) i0 = 0 from rfl)
    obtain ⟨cc, hcc⟩ : ∃ cc, codeE (some i) = cc := ⟨_, rfl⟩
    rw [hcc] at T1 hc0 ⊢
    clear hcc
    go_enter Tryd.func29, Tryd.ntmps29
    go_upto_region 1 with (fail)
    try rw [hW]
    clear hW
    go_wp2_with (go_at_call 63; refine T1.mono ?_; rintro e V1 ⟨rfl, hq1⟩; have Q1 := Lib.hid hq1; obtain ⟨r0, r1, r2, r3, r4⟩ := HLD.out _ hq1; clear hq1 s0 s1 s2 s3 s4)
    go_ret3
    exact ⟨⟨0, by rw [HE.out]; rfl, rfl⟩, BW.out.trans (Q1.out.mono BW.out.size)⟩
end Go.Proofs.YthacifhphoaioaaDoor
