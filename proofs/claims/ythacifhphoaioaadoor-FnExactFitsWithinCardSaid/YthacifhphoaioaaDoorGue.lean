/- Guesses, and what is asked of them, of both sides. Condition (the program's): the sentinels lie where they are laid. -/
import Derived.Test.YthacifhphoaioaaDoorAs
import Derived.Test.YthacifhphoaioaaDoorMisC
namespace Go.Proofs.YthacifhphoaioaaDoor
open Go Go.RowKit Ieee
set_option linter.unusedSimpArgs false
set_option linter.unusedVariables false
attribute [local go_sem] run_store_f32

/-- All guesses are aquifers that are valid. -/
def allAq (G : List A2) : Bool := G.all fun a => aqB a.1 a.2
def gueB (G : List A2) (X Y : Int) (R : Nat) (x y : Int) (L : List R2) : Bool := allAq G && stB X Y R x y && okRs L
/-- The number of the error of guesses. -/
def gueK (b : Bool) (n : Nat) : Option Nat := if b = true then (if 1 ≤ n ∧ n ≤ 20 then none else some 1) else some 0
theorem gueK_lt {b : Bool} {n : Nat} : ∀ i, gueK b n = some i → i < 5 := by
  intro i h
  unfold gueK at h
  split at h
  · split at h
    · cases h
    · cases h; decide
  · cases h; decide
theorem allAq_at {G : List A2} (h : allAq G = true) {k : Nat} {a : A2} (ha : G[k]? = some a) : aqB a.1 a.2 = true := (List.all_eq_true.1 h) a (List.mem_of_getElem? ha)
theorem allAq_no {G : List A2} {k : Nat} {a : A2} (ha : G[k]? = some a) (h : aqB a.1 a.2 = false) : allAq G = false := by
  cases hq : allAq G
  · rfl
  · rw [allAq_at hq ha] at h; cases h
theorem allAq_yes {G : List A2} {n : Nat} (hn : G.length = n) (h : ∀ (j : Nat) (a : A2), j < n → G[j]? = some a → aqB a.1 a.2 = true) : allAq G = true := by
  unfold allAq
  rw [List.all_eq_true]
  intro a ha
  obtain ⟨j, hj⟩ := List.getElem?_of_mem ha
  exact h j a (by rw [← hn]; exact (List.getElem?_eq_some_iff.1 hj).1) hj

set_option maxRecDepth 100000 in
set_option maxHeartbeats 4000000 in
theorem indexL_any (p : Option Addr) (c : Nat) (G : List A2) (hG : G.length ≤ 1048576) (w : World) (hp : AsAt w p G) :
    Calls Tryd.prog 121 #[.slice p G.length c, .func (.func 96) #[] #[]] w fun e w' => (∃ k : Int, e = .returned (.int .i64 k) ∧ decide (0 ≤ k) = !allAq G) ∧ Below w.heap.size w w' := by
  have P0 := Lib.hid hp
  obtain ⟨n, hn⟩ : ∃ n, G.length = n := ⟨_, rfl⟩
  have HN := Lib.hid hn
  rw [hn] at hG ⊢
  clear hp hn
  go_enter Tryd.func121, Tryd.ntmps121
  go_wp2
  go_loopw [8] (fun (i : Value) (wr : World) => ∃ k : Nat, k ≤ n ∧ i = .int .i64 (k : Int) ∧ Hid (∀ (j : Nat) (a : A2), j < k → G[j]? = some a → aqB a.1 a.2 = true) ∧ Hid (Below w.heap.size w wr)) (fun i _ => n - (intOf i).toNat)
  case atStart => exact ⟨0, by omega, rfl, Lib.hid (fun j a h => by omega), Lib.hid (Below.refl _ _)⟩
  case round =>
    obtain ⟨k, hk, rfl, hA, hB⟩ := hrel
    by_cases hlt : k < n
    · have hki : (k : Int) < n := by omega
      obtain ⟨a, ha⟩ : ∃ a, G[k]? = some a := ⟨_, List.getElem?_eq_getElem (by rw [HN.out]; exact hlt)⟩
      obtain ⟨b, o, rfl, hr⟩ := (P0.out.keep hB.out) k a ha
      have c0 : wr.cell? ⟨b, o + k * 2, none⟩ = some (.float .f32 a.1) := hr 0 _ rfl
      have c1 : wr.cell? ⟨b, o + k * 2 + 1, none⟩ = some (.float .f32 a.2) := hr 1 _ rfl
      have T1 := Lib.hid (fun V => notAq_any a.1 a.2 V)
      simp only [Aq] at T1
      cases hq : aqB a.1 a.2
      · rw [hq] at T1
        have R1 := Lib.hid (allAq_no ha hq)
        clear hr ha hq
        go_wp2_with (go_at_call 96; refine (T1.out _).mono ?_; rintro e V1 ⟨rfl, hq1⟩; have Q1 := Lib.hid (hB.out.trans (hq1.mono hB.out.size)); clear hq1)
        go_ret
        exact ⟨⟨k, rfl, by rw [R1.out]; simp⟩, Q1.out⟩
      · rw [hq] at T1
        have R1 := Lib.hid (show ∀ (j : Nat) (a : A2), j < k + 1 → G[j]? = some a → aqB a.1 a.2 = true from fun j a' hj ha' => by
          by_cases e : j = k
          · subst e
            rw [ha] at ha'
            cases ha'
            exact hq
          · exact hA.out j a' (by omega) ha')
        clear hr ha hq
        go_wp2_with (go_at_call 96; refine (T1.out _).mono ?_; rintro e V1 ⟨rfl, hq1⟩; have Q1 := Lib.hid (hB.out.trans (hq1.mono hB.out.size)); clear hq1)
        go_roundw
        case rel => exact ⟨k + 1, by omega, by go_num, R1, Q1⟩
        case measure => simp [intOf]; omega
    · obtain rfl : k = n := by omega
      have R1 := Lib.hid (allAq_yes HN.out hA.out)
      go_wp2
      go_ret
      exact ⟨⟨-1, rfl, by rw [R1.out]; rfl⟩, hB.out⟩
set_option maxRecDepth 100000 in
set_option maxHeartbeats 4000000 in
theorem containsL_any (p : Option Addr) (c : Nat) (G : List A2) (hG : G.length ≤ 1048576) (w : World) (hp : AsAt w p G) :
    Calls Tryd.prog 95 #[.slice p G.length c, .func (.func 96) #[] #[]] w fun e w' => e = .returned (.bool (!allAq G)) ∧ Below w.heap.size w w' := by
  have T1 := indexL_any p c G hG w hp
  obtain ⟨n, hn⟩ : ∃ n, G.length = n := ⟨_, rfl⟩
  rw [hn] at T1 ⊢
  clear hn hp
  go_enter Tryd.func95, Tryd.ntmps95
  go_wp2_with (go_at_call 121; refine T1.mono ?_; rintro e V1 ⟨⟨k, rfl, hk⟩, hq1⟩; have Q1 := Lib.hid hq1; have HK := Lib.hid hk; clear hq1 hk)
  go_ret
  exact ⟨ret_bool HK.out, Q1.out⟩
set_option maxRecDepth 100000 in
set_option maxHeartbeats 2000000 in
theorem checkTestL_any {s : Nat → Addr} (pg : Option Addr) (cg : Nat) (G : List A2) (hG : G.length ≤ 1048576) (X Y : Int) (R : Nat) (x y : Int) (p : Option Addr) (c : Nat) (L : List R2) (hL : L.length ≤ 1048576) (hX : -128 ≤ X ∧ X ≤ 127) (hY : -128 ≤ Y ∧ Y ≤ 127) (hx : -128 ≤ x ∧ x ≤ 127) (hy : -128 ≤ y ∧ y ≤ 127) (w : World) (hp : RsAt w p L) (hS : Sents w s) (hg : AsAt w pg G) :
    Calls Tryd.prog 68 #[.agg (Ste X Y R x y), .slice p L.length c, .slice pg G.length cg] w fun e w' => e = .returned (erV s (askK (gueB G X Y R x y L))) ∧ Below w.heap.size w w' := by
  have B0 : Below w.heap.size w (w.alloc (.cells (Ste X Y R x y) 38)) := (Below.refl _ _).alloc (Nat.le_refl _) _
  have hrow := heap_alloc_last w (.cells (Ste X Y R x y) 38)
  have s0 : (w.alloc (.cells (Ste X Y R x y) 38)).cell? ⟨w.heap.size, 0, none⟩ = some (.int .i8 X) := cell_of_row _ _ 0 _ _ _ hrow
  have s1 : (w.alloc (.cells (Ste X Y R x y) 38)).cell? ⟨w.heap.size, 1, none⟩ = some (.int .i8 Y) := cell_of_row _ _ 1 _ _ _ hrow
  have s2 : (w.alloc (.cells (Ste X Y R x y) 38)).cell? ⟨w.heap.size, 2, none⟩ = some (.float .f32 R) := cell_of_row _ _ 2 _ _ _ hrow
  have s3 : (w.alloc (.cells (Ste X Y R x y) 38)).cell? ⟨w.heap.size, 3, none⟩ = some (.int .i8 x) := cell_of_row _ _ 3 _ _ _ hrow
  have s4 : (w.alloc (.cells (Ste X Y R x y) 38)).cell? ⟨w.heap.size, 4, none⟩ = some (.int .i8 y) := cell_of_row _ _ 4 _ _ _ hrow
  clear hrow
  have BB := Lib.hid B0
  clear B0
  have HS := Lib.hid hS
  have HP := Lib.hid hp
  have T1 := fun V => validSite_any X Y R x y hX hY hx hy V
  have TC := Lib.hid (fun V (hV : Below w.heap.size w V) => containsL_any pg cg G hG V (hg.keep hV))
  have TR := Lib.hid (fun V (hV : Below w.heap.size w V) => checkReadings_any p c L hL V (hp.keep hV) (hS.keep hV))
  have GS := Lib.hid (show ∀ V, Below w.heap.size w V → V.cell? ⟨1, 0, none⟩ = some (.iface 192 (.pointer (some (s 0)))) from fun V hV => (hS.keep hV).cell 0 (by decide))
  have HC : gueB G X Y R x y L = (allAq G && stB X Y R x y && okRs L) := rfl
  clear hg hp hS
  obtain ⟨m, hm⟩ : ∃ m, G.length = m := ⟨_, rfl⟩
  rw [hm] at TC hG ⊢
  clear hm
  obtain ⟨n, hn⟩ : ∃ n, L.length = n := ⟨_, rfl⟩
  cases h2 : stB X Y R x y
  · rw [h2] at T1 HC
    have HE := Lib.hid (show Value.iface 192 (.pointer (some (s 0))) = erV s (askK (gueB G X Y R x y L)) by rw [HC]; cases allAq G <;> rfl)
    rw [hn] at hL TR ⊢
    clear hn h2 HC TC TR
    simp only [Ste] at T1 BB s0 s1 s2 s3 s4 ⊢
    go_enter Tryd.func68, Tryd.ntmps68
    go_wp2_with (go_at_call 94; refine (T1 _).mono ?_; rintro e V1 ⟨rfl, hq1⟩; have Q1 := Lib.hid (BB.out.trans (hq1.mono BB.out.size)); have g := GS.out V1 Q1.out; clear hq1)
    go_ret
    exact ⟨by first | (rw [HE.out]; done) | (rw [HE.out]; rfl), Q1.out⟩
  · rw [h2] at T1 HC
    cases h1 : allAq G
    · rw [h1] at HC TC
      have HE := Lib.hid (show Value.iface 192 (.pointer (some (s 0))) = erV s (askK (gueB G X Y R x y L)) by rw [HC]; rfl)
      rw [hn] at hL TR ⊢
      clear hn h1 h2 HC TR
      simp only [Ste] at T1 BB s0 s1 s2 s3 s4 ⊢
      go_enter Tryd.func68, Tryd.ntmps68
      go_wp2_with (first | (go_at_call 94; refine (T1 _).mono ?_; rintro e V1 ⟨rfl, hq1⟩; have Q1 := Lib.hid (BB.out.trans (hq1.mono BB.out.size)); clear hq1) | (go_at_call 95; refine (TC.out _ Q1.out).mono ?_; rintro e V2 ⟨rfl, hq2⟩; have Q2 := Lib.hid (Q1.out.trans (hq2.mono Q1.out.size)); have g := GS.out V2 Q2.out; clear hq2))
      go_ret
      exact ⟨by first | (rw [HE.out]; done) | (rw [HE.out]; rfl), Q2.out⟩
    · rw [h1] at HC TC
      have HE := Lib.hid (show erV s (ckR L) = erV s (askK (gueB G X Y R x y L)) by rw [HC]; cases h : okRs L <;> simp only [ckR, h] <;> rfl)
      obtain ⟨v, hv⟩ : ∃ v, erV s (ckR L) = v := ⟨_, rfl⟩
      rw [hn] at hL TR ⊢
      rw [hv] at TR HE
      clear hn h1 h2 HC hv
      simp only [Ste] at T1 BB s0 s1 s2 s3 s4 ⊢
      go_enter Tryd.func68, Tryd.ntmps68
      go_wp2_with (first | (go_at_call 94; refine (T1 _).mono ?_; rintro e V1 ⟨rfl, hq1⟩; have Q1 := Lib.hid (BB.out.trans (hq1.mono BB.out.size)); clear hq1) | (go_at_call 95; refine (TC.out _ Q1.out).mono ?_; rintro e V2 ⟨rfl, hq2⟩; have Q2 := Lib.hid (Q1.out.trans (hq2.mono Q1.out.size)); clear hq2) | (go_at_call 82; refine (TR.out _ Q2.out).mono ?_; rintro e V3 ⟨rfl, hq3⟩; have Q3 := Lib.hid (Q2.out.trans (hq3.mono Q2.out.size)); clear hq3))
      go_ret
      exact ⟨by first | (rw [HE.out]; done) | (rw [HE.out]; rfl), Q3.out⟩
set_option maxRecDepth 100000 in
set_option maxHeartbeats 4000000 in
theorem checkGuesses_any {s : Nat → Addr} (pg : Option Addr) (cg : Nat) (G : List A2) (hG : G.length ≤ 1048576) (X Y : Int) (R : Nat) (x y : Int) (p : Option Addr) (c : Nat) (L : List R2) (hL : L.length ≤ 1048576) (hX : -128 ≤ X ∧ X ≤ 127) (hY : -128 ≤ Y ∧ Y ≤ 127) (hx : -128 ≤ x ∧ x ≤ 127) (hy : -128 ≤ y ∧ y ≤ 127) (w : World) (hp : RsAt w p L) (hS : Sents w s) (hg : AsAt w pg G) :
    Calls Tryd.prog 89 #[.slice pg G.length cg, .agg (Ste X Y R x y), .slice p L.length c] w fun e w' => e = .returned (erV s (gueK (gueB G X Y R x y L) G.length)) ∧ Below w.heap.size w w' := by
  have B0 : Below w.heap.size w (w.alloc (.cells (Ste X Y R x y) 38)) := (Below.refl _ _).alloc (Nat.le_refl _) _
  have T1 := checkTestL_any pg cg G hG X Y R x y p c L hL hX hY hx hy _ (hp.keep B0) (hS.keep B0) (hg.keep B0)
  have hrow := heap_alloc_last w (.cells (Ste X Y R x y) 38)
  have s0 := cell_of_row _ _ 0 _ _ _ hrow
  have s1 := cell_of_row _ _ 1 _ _ _ hrow
  have s2 := cell_of_row _ _ 2 _ _ _ hrow
  have s3 := cell_of_row _ _ 3 _ _ _ hrow
  have s4 := cell_of_row _ _ 4 _ _ _ hrow
  have BB := Lib.hid B0
  have HS := Lib.hid hS
  obtain ⟨m, hm⟩ : ∃ m, G.length = m := ⟨_, rfl⟩
  obtain ⟨n, hn⟩ : ∃ n, L.length = n := ⟨_, rfl⟩
  rw [hm] at hG T1 ⊢
  rw [hn] at hL T1 ⊢
  obtain ⟨q, hq⟩ : ∃ q, gueB G X Y R x y L = q := ⟨_, rfl⟩
  rw [hq] at T1 ⊢
  clear hm hn hq hrow B0 hp hS hg
  cases q
  · have HE := Lib.hid (show Value.iface 192 (.pointer (some (s 0))) = erV s (gueK false m) from rfl)
    simp only [askK, erV, Bool.false_eq_true, if_false] at T1
    simp only [Ste] at T1 BB s0 s1 s2 s3 s4 ⊢
    go_enter Tryd.func89, Tryd.ntmps89
    go_wp2_with (go_at_call 68; refine T1.mono ?_; rintro e V1 ⟨rfl, hq1⟩; have Q1 := Lib.hid (BB.out.trans (hq1.mono BB.out.size)); clear hq1)
    go_ret
    exact ⟨by first | (rw [← HE.out]; done) | (rw [← HE.out]; rfl), Q1.out⟩
  · simp only [askK, erV, if_true] at T1
    by_cases h1 : 1 ≤ m ∧ m ≤ 20
    · have HE := Lib.hid (show Value.nilIface = erV s (gueK true m) by unfold gueK; rw [if_pos rfl, if_pos h1]; rfl)
      obtain ⟨h1, h2⟩ := h1
      have h3 : ¬ (m : Int) < 1 := by omega
      have h4 : ¬ (20 : Int) < m := by omega
      simp only [Ste] at T1 BB s0 s1 s2 s3 s4 ⊢
      go_enter Tryd.func89, Tryd.ntmps89
      go_wp2_with (go_at_call 68; refine T1.mono ?_; rintro e V1 ⟨rfl, hq1⟩; have Q1 := Lib.hid (BB.out.trans (hq1.mono BB.out.size)); clear hq1)
      go_ret
      exact ⟨by first | (rw [← HE.out]; done) | (rw [← HE.out]; rfl), Q1.out⟩
    · have HE := Lib.hid (show Value.iface 192 (.pointer (some (s 1))) = erV s (gueK true m) by unfold gueK; rw [if_pos rfl, if_neg h1]; rfl)
      have G1 : ∀ V, Below w.heap.size w V → V.cell? ⟨0, 0, none⟩ = some (.iface 192 (.pointer (some (s 1)))) := fun V hV => (HS.out.keep hV).cell 1 (by decide)
      by_cases h3 : (m : Int) < 1
      · clear h1
        simp only [Ste] at T1 BB s0 s1 s2 s3 s4 ⊢
        go_enter Tryd.func89, Tryd.ntmps89
        go_wp2_with (go_at_call 68; refine T1.mono ?_; rintro e V1 ⟨rfl, hq1⟩; have Q1 := Lib.hid (BB.out.trans (hq1.mono BB.out.size)); have g1 := G1 V1 Q1.out; clear hq1)
        go_ret
        exact ⟨by first | (rw [← HE.out]; done) | (rw [← HE.out]; rfl), Q1.out⟩
      · have h4 : (20 : Int) < m := by omega
        clear h1
        simp only [Ste] at T1 BB s0 s1 s2 s3 s4 ⊢
        go_enter Tryd.func89, Tryd.ntmps89
        go_wp2_with (go_at_call 68; refine T1.mono ?_; rintro e V1 ⟨rfl, hq1⟩; have Q1 := Lib.hid (BB.out.trans (hq1.mono BB.out.size)); have g1 := G1 V1 Q1.out; clear hq1)
        go_ret
        exact ⟨by first | (rw [← HE.out]; done) | (rw [← HE.out]; rfl), Q1.out⟩
end Go.Proofs.YthacifhphoaioaaDoor
