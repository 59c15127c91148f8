/- Which readings are valid: the program's and the model's, as a value of the list. Condition: at most 2^20 readings. -/
import Derived.Test.YtbiknpfcemfoeaaDoorRs
import Derived.Test.YtbiknpfcemfoeaaDoorOk
namespace Go.Proofs.YtbiknpfcemfoeaaDoor
open Go Go.RowKit Ieee
set_option linter.unusedSimpArgs false
set_option linter.unusedVariables false
attribute [local go_sem] run_store_f32

/-- The time of the reading before. -/
def lastR (L : List R2) (k : Nat) : Int := match k with | 0 => 0 | k + 1 => ((L[k]?).map Prod.fst).getD 0
def goodR (L : List R2) (k : Nat) : Bool := match L[k]? with | some e => decide (lastR L k + 1 ≤ e.1) && decide (e.1 ≤ 100000) | none => true
def okRs (L : List R2) : Bool := decide (L.length ≤ 40) && (List.range L.length).all (goodR L)
theorem okRs_long {L : List R2} {n : Nat} (hn : L.length = n) (h : ¬ n ≤ 40) : okRs L = false := by simp [okRs, hn, h]
theorem okRs_yes {L : List R2} {n : Nat} (hn : L.length = n) (h : n ≤ 40) (ha : ∀ j, j < n → goodR L j = true) : okRs L = true := by
  simp only [okRs, hn, h, decide_true, Bool.true_and, List.all_eq_true, List.mem_range]
  exact ha
theorem okRs_no {L : List R2} {n k : Nat} (hn : L.length = n) (hk : k < n) (h : goodR L k = false) : okRs L = false := by
  have : (List.range L.length).all (goodR L) = false := by
    rw [List.all_eq_false]
    exact ⟨k, by simp [hn, hk], by rw [h]; decide⟩
  simp [okRs, this]
theorem lastR_succ {L : List R2} {k : Nat} {e : R2} (he : L[k]? = some e) : lastR L (k + 1) = e.1 := by simp [lastR, he]
theorem lastR_rng {L : List R2} {n k : Nat} (hn : L.length = n) (hk : k ≤ n) (h : ∀ j, j < k → goodR L j = true) : 0 ≤ lastR L k ∧ lastR L k ≤ 100000 := by
  induction k with
  | zero => simp [lastR]
  | succ k ih =>
    obtain ⟨a, b⟩ := ih (by omega) (fun j hj => h j (by omega))
    obtain ⟨e, he⟩ : ∃ e, L[k]? = some e := ⟨_, List.getElem?_eq_getElem (by omega)⟩
    have := h k (by omega)
    simp only [goodR, he, Bool.and_eq_true, decide_eq_true_eq] at this
    rw [lastR_succ he]
    omega
theorem goodR_snoc {L : List R2} {k : Nat} (h : ∀ j, j < k → goodR L j = true) (hk : goodR L k = true) : ∀ j, j < k + 1 → goodR L j = true := fun j hj => by
  by_cases hjk : j = k
  · subst hjk; exact hk
  · exact h j (by omega)
theorem ret_rs {r : Bool} {L : List R2} (h : okRs L = r) : Ending.returned (.bool r) = .returned (.bool (okRs L)) := by rw [h]

theorem in_is (x lo hi : Int) (r : Bool) (h : (decide (lo ≤ x) && decide (x ≤ hi)) = r) (w : World) : Calls Tryd.prog 37 #[.int .i64 x, .int .i64 lo, .int .i64 hi] w fun e w' => e = .returned (.bool r) ∧ w' = w := by
  subst h
  by_cases h1 : lo ≤ x
  · by_cases h2 : x ≤ hi
    · rw [show (decide (lo ≤ x) && decide (x ≤ hi)) = true by simp [h1, h2]]
      go_enter Tryd.func37, Tryd.ntmps37
      go_wp2
      go_ret
      exact ⟨rfl, rfl⟩
    · rw [show (decide (lo ≤ x) && decide (x ≤ hi)) = false by simp [h2]]
      go_enter Tryd.func37, Tryd.ntmps37
      go_wp2
      go_ret
      exact ⟨rfl, rfl⟩
  · rw [show (decide (lo ≤ x) && decide (x ≤ hi)) = false by simp [h1]]
    go_enter Tryd.func37, Tryd.ntmps37
    go_wp2
    go_ret
    exact ⟨rfl, rfl⟩

set_option maxRecDepth 100000 in
set_option maxHeartbeats 1000000 in
theorem l04Ok_any (p : Option Addr) (c : Nat) (L : List R2) (hL : L.length ≤ 1048576) (w : World) (hp : RsAt w p L) :
    Calls Tryd.prog 27 #[.slice p L.length c] w fun e w' => e = .returned (.bool (okRs L)) ∧ Below w.heap.size w w' := by
  have P0 := Lib.hid hp
  obtain ⟨n, hn⟩ : ∃ n, L.length = n := ⟨_, rfl⟩
  have HN := Lib.hid hn
  rw [hn] at hL ⊢
  clear hp hn
  by_cases h40 : n ≤ 40
  · have g40 : ¬ 40 < n := by omega
    have h40' : ¬ (40 : Int) < n := by omega
    go_enter Tryd.func27, Tryd.ntmps27
    go_wp2
    go_loopw [4, 3] (fun i b wr => ∃ k : Nat, k ≤ n ∧ i = .int .i64 k ∧ b = .int .i64 (lastR L k) ∧ Hid (∀ j, j < k → goodR L j = true) ∧ Hid (Below w.heap.size w wr)) (fun i _ _ => n - (intOf i).toNat)
    case atStart => exact ⟨0, by omega, rfl, rfl, Lib.hid (fun j hj => absurd hj (by omega)), Lib.hid (Below.refl _ _)⟩
    case round =>
      obtain ⟨k, hk, rfl, rfl, hG, hB⟩ := hrel
      by_cases hlt : k < n
      · have hki : (k : Int) < n := by omega
        obtain ⟨e, he⟩ : ∃ e, L[k]? = some e := ⟨_, List.getElem?_eq_getElem (by rw [HN.out]; exact hlt)⟩
        obtain ⟨b, o, rfl, hr⟩ := (P0.out.keep hB.out) k e he
        obtain ⟨r1, r2⟩ := lastR_rng HN.out hk hG.out
        have c0 : wr.cell? ⟨b, o + k * 2, none⟩ = some (.int .i64 e.1) := hr 0 _ rfl
        have HE := Lib.hid he
        obtain ⟨la, hla⟩ : ∃ la, lastR L k = la := ⟨_, rfl⟩
        rw [hla] at r1 r2 ⊢
        have HLA := Lib.hid hla
        clear hr he hla
        cases hg : (decide (la + 1 ≤ e.1) && decide (e.1 ≤ 100000))
        · have N := Lib.hid (ret_rs (okRs_no HN.out hlt (show goodR L k = false by simp only [goodR, HE.out, HLA.out, hg])))
          have HG := Lib.hid hg
          clear hg
          go_wp2_with (go_at_call 37; refine (in_is e.1 (la + 1) 100000 false HG.out _).mono ?_; rintro x V ⟨rfl, hV⟩; rw [hV]; clear hV)
          go_ret
          exact ⟨N.out, hB.out⟩
        · have N := Lib.hid (goodR_snoc hG.out (show goodR L k = true by simp only [goodR, HE.out, HLA.out, hg]))
          have HG := Lib.hid hg
          clear hg
          go_wp2_with (go_at_call 37; refine (in_is e.1 (la + 1) 100000 true HG.out _).mono ?_; rintro x V ⟨rfl, hV⟩; rw [hV]; clear hV)
          go_roundw
          case rel => exact ⟨k + 1, by omega, by go_num, by rw [lastR_succ HE.out], N, hB⟩
          case measure => simp [intOf]; omega
      · obtain rfl : k = n := by omega
        have N := Lib.hid (ret_rs (okRs_yes HN.out h40 hG.out))
        go_wp2
        go_ret
        exact ⟨N.out, hB.out⟩
  · have N := Lib.hid (ret_rs (okRs_long HN.out h40))
    have g40 : 40 < n := by omega
    have h40' : (40 : Int) < n := by omega
    go_enter Tryd.func27, Tryd.ntmps27
    go_wp2
    go_ret
    exact ⟨N.out, Below.refl _ _⟩
set_option maxRecDepth 100000 in
set_option maxHeartbeats 1000000 in
theorem implVr_any (p : Option Addr) (c : Nat) (L : List R2) (hL : L.length ≤ 1048576) (w : World) (hp : RsAt w p L) :
    Calls Tryd.prog 58 #[.slice p L.length c] w fun e w' => e = .returned (.bool (okRs L)) ∧ Below w.heap.size w w' := by
  have P0 := Lib.hid hp
  obtain ⟨n, hn⟩ : ∃ n, L.length = n := ⟨_, rfl⟩
  have HN := Lib.hid hn
  rw [hn] at hL ⊢
  clear hp hn
  by_cases h40 : n ≤ 40
  · have g40 : ¬ 40 < n := by omega
    have h40' : ¬ (40 : Int) < n := by omega
    go_enter Tryd.func58, Tryd.ntmps58
    go_wp2
    go_loopw [11, 3] (fun i b wr => ∃ k : Nat, k ≤ n ∧ i = .int .i64 k ∧ b = .int .i64 (lastR L k) ∧ Hid (∀ j, j < k → goodR L j = true) ∧ Hid (Below w.heap.size w wr)) (fun i _ _ => n - (intOf i).toNat)
    case atStart => exact ⟨0, by omega, rfl, rfl, Lib.hid (fun j hj => absurd hj (by omega)), Lib.hid (Below.refl _ _)⟩
    case round =>
      obtain ⟨k, hk, rfl, rfl, hG, hB⟩ := hrel
      by_cases hlt : k < n
      · have hki : (k : Int) < n := by omega
        obtain ⟨e, he⟩ : ∃ e, L[k]? = some e := ⟨_, List.getElem?_eq_getElem (by rw [HN.out]; exact hlt)⟩
        obtain ⟨b, o, rfl, hr⟩ := (P0.out.keep hB.out) k e he
        obtain ⟨r1, r2⟩ := lastR_rng HN.out hk hG.out
        have c0 : wr.cell? ⟨b, o + k * 2, none⟩ = some (.int .i64 e.1) := hr 0 _ rfl
        have c1 : wr.cell? ⟨b, o + k * 2 + 1, none⟩ = some (.int .i16 e.2) := hr 1 _ rfl
        have HE := Lib.hid he
        obtain ⟨la, hla⟩ : ∃ la, lastR L k = la := ⟨_, rfl⟩
        rw [hla] at r1 r2 ⊢
        have HLA := Lib.hid hla
        have BA := Lib.hid (hB.out.alloc hB.out.size (.cells #[.int .i64 e.1, .int .i16 e.2] 65))
        clear hr he hla
        cases hm : tmB e.1
        · have hg : goodR L k = false := by
            simp only [goodR, HE.out, HLA.out]
            simp only [tmB, Bool.and_eq_false_iff, decide_eq_false_iff_not] at hm ⊢
            omega
          have N := Lib.hid (ret_rs (okRs_no HN.out hlt hg))
          have HM := Lib.hid hm
          clear hm hg
          go_wp2_with (go_at_call 82; refine (isMoment_is e.1 false HM.out _).mono ?_; rintro x V ⟨rfl, hV⟩; rw [← hV]; clear hV)
          go_ret
          exact ⟨N.out, BA.out⟩
        · by_cases hle : e.1 ≤ la
          · have hg : goodR L k = false := by
              simp only [goodR, HE.out, HLA.out]
              simp only [Bool.and_eq_false_iff, decide_eq_false_iff_not]
              omega
            have N := Lib.hid (ret_rs (okRs_no HN.out hlt hg))
            have HM := Lib.hid hm
            clear hm hg
            go_wp2_with (go_at_call 82; refine (isMoment_is e.1 true HM.out _).mono ?_; rintro x V ⟨rfl, hV⟩; rw [← hV]; clear hV)
            go_ret
            exact ⟨N.out, BA.out⟩
          · have hg : goodR L k = true := by
              simp only [goodR, HE.out, HLA.out]
              simp only [tmB, Bool.and_eq_true, decide_eq_true_eq] at hm ⊢
              omega
            have N := Lib.hid (goodR_snoc hG.out hg)
            have HM := Lib.hid hm
            clear hm hg
            go_wp2_with (go_at_call 82; refine (isMoment_is e.1 true HM.out _).mono ?_; rintro x V ⟨rfl, hV⟩; rw [← hV]; clear hV)
            go_roundw
            case rel => exact ⟨k + 1, by omega, by go_num, by rw [lastR_succ HE.out], N, BA⟩
            case measure => simp [intOf]; omega
      · obtain rfl : k = n := by omega
        have N := Lib.hid (ret_rs (okRs_yes HN.out h40 hG.out))
        go_wp2
        go_ret
        exact ⟨N.out, hB.out⟩
  · have N := Lib.hid (ret_rs (okRs_long HN.out h40))
    have g40 : 40 < n := by omega
    have h40' : (40 : Int) < n := by omega
    go_enter Tryd.func58, Tryd.ntmps58
    go_wp2
    go_ret
    exact ⟨N.out, Below.refl _ _⟩
end Go.Proofs.YtbiknpfcemfoeaaDoor
