/- SameReadings, the program's and the model's, as a value of two lists. Condition: at most 2^20 readings each. -/
import Derived.Test.YthklihenghnaeaaRs
import Derived.BigQuiet
import Derived.Deep.QuietTactic
import Derived.Deep.RegionHeld3
namespace Go.Proofs.Ythklihenghnaeaa
open Go Go.RowKit Ieee
set_option linter.unusedSimpArgs false
set_option linter.unusedVariables false
attribute [local go_sem] run_store_f32

def eqR (e f : R2) : Bool := e.1 == f.1 && e.2 == f.2
/-- The first k readings are the same. -/
def rsTo (L M : List R2) (k : Nat) : Prop := ∀ i, i < k → L[i]? = M[i]?
def sameRs (L M : List R2) : Bool := decide (L = M)
theorem sameRs_len {L M : List R2} (h : L.length ≠ M.length) : sameRs L M = false := by
  simp only [sameRs, decide_eq_false_iff_not]
  rintro rfl
  exact h rfl
theorem sameRs_yes {L M : List R2} {n : Nat} (h1 : L.length = n) (h2 : M.length = n) (h : rsTo L M n) : sameRs L M = true := by
  simp only [sameRs, decide_eq_true_eq]
  refine List.ext_getElem? fun i => ?_
  by_cases hi : i < n
  · exact h i hi
  · rw [List.getElem?_eq_none (by omega), List.getElem?_eq_none (by omega)]
theorem sameRs_no {L M : List R2} {k : Nat} {e f : R2} (he : L[k]? = some e) (hf : M[k]? = some f) (h : eqR e f = false) : sameRs L M = false := by
  simp only [sameRs, decide_eq_false_iff_not]
  rintro rfl
  rw [he] at hf
  cases hf
  simp [eqR] at h
theorem rsTo_snoc {L M : List R2} {k : Nat} {e f : R2} (h : rsTo L M k) (he : L[k]? = some e) (hf : M[k]? = some f) (hq : eqR e f = true) : rsTo L M (k + 1) := fun i hi => by
  by_cases hik : i = k
  · subst hik
    rw [he, hf]
    simp only [eqR, Bool.and_eq_true, beq_iff_eq] at hq
    rw [Prod.ext hq.1 hq.2]
  · exact h i (by omega)
theorem ret_sr {r : Bool} {L M : List R2} (h : sameRs L M = r) : Ending.returned (.bool r) = .returned (.bool (sameRs L M)) := by rw [h]

set_option maxRecDepth 100000 in
set_option maxHeartbeats 1000000 in
theorem specSameReadings_any (p q : Option Addr) (c d : Nat) (L M : List R2) (hL : L.length ≤ 1048576) (hM : M.length ≤ 1048576) (w : World) (hp : RsAt w p L) (hq : RsAt w q M) :
    Calls Try.prog 45 #[.slice p L.length c, .slice q M.length d] w fun e w' => e = .returned (.bool (sameRs L M)) ∧ Below w.heap.size w w' := by
  have P0 := Lib.hid hp
  have Q0 := Lib.hid hq
  obtain ⟨n, hn⟩ : ∃ n, L.length = n := ⟨_, rfl⟩
  obtain ⟨m, hm⟩ : ∃ m, M.length = m := ⟨_, rfl⟩
  have HN := Lib.hid hn
  have HM := Lib.hid hm
  rw [hn] at hL ⊢
  rw [hm] at hM ⊢
  clear hp hq hn hm
  by_cases hnm : n = m
  · subst hnm
    go_enter Try.func45, Try.ntmps45
    go_wp2
    go_loopw [5] (fun i wr => ∃ k : Nat, k ≤ n ∧ i = .int .i64 k ∧ Hid (rsTo L M k) ∧ Hid (Quiet w wr)) (fun i _ => n - (intOf i).toNat)
    case atStart => exact ⟨0, by omega, rfl, Lib.hid (fun i hi => absurd hi (by omega)), Lib.hid (Quiet.refl _)⟩
    case round =>
      obtain ⟨k, hk, rfl, hW, hB⟩ := hrel
      by_cases hlt : k < n
      · have hki : (k : Int) < n := by omega
        obtain ⟨e, he⟩ : ∃ e, L[k]? = some e := ⟨_, List.getElem?_eq_getElem (by rw [HN.out]; exact hlt)⟩
        obtain ⟨f, hf⟩ : ∃ f, M[k]? = some f := ⟨_, List.getElem?_eq_getElem (by rw [HM.out]; exact hlt)⟩
        obtain ⟨b, o, rfl, hr⟩ := P0.out k e he
        obtain ⟨b', o', rfl, hr'⟩ := Q0.out k f hf
        have c0 : wr.cell? ⟨b, o + k * 2, none⟩ = some (.int .i64 e.1) := (hB.out.cell _).trans (hr 0 _ rfl)
        have c1 : wr.cell? ⟨b, o + k * 2 + 1, none⟩ = some (.int .i16 e.2) := (hB.out.cell _).trans (hr 1 _ rfl)
        have d0 : wr.cell? ⟨b', o' + k * 2, none⟩ = some (.int .i64 f.1) := (hB.out.cell _).trans (hr' 0 _ rfl)
        have d1 : wr.cell? ⟨b', o' + k * 2 + 1, none⟩ = some (.int .i16 f.2) := (hB.out.cell _).trans (hr' 1 _ rfl)
        have HE := Lib.hid he
        have HF := Lib.hid hf
        clear hr hr' he hf
        obtain ⟨e0, e1⟩ := e
        obtain ⟨f0, f1⟩ := f
        simp only at c0 c1 d0 d1
        by_cases h0 : e0 = f0
        · subst h0
          by_cases h1 : e1 = f1
          · subst h1
            have N := Lib.hid (rsTo_snoc hW.out HE.out HF.out (by simp [eqR]))
            go_wp2
            go_quiet (fail)
            go_wp2
            go_roundw
            case rel => exact ⟨k + 1, by omega, by go_num, N, Lib.hid (hB.out.drewN _)⟩
            case measure => simp [intOf]; omega
          · have N := Lib.hid (ret_sr (sameRs_no HE.out HF.out (by simp [eqR, h1])))
            go_wp2
            go_quiet (fail)
            go_wp2
            go_ret
            exact ⟨N.out, (hB.out.drewN _).below _⟩
        · have N := Lib.hid (ret_sr (sameRs_no HE.out HF.out (by simp [eqR, h0])))
          go_wp2
          go_quiet (fail)
          go_wp2
          go_ret
          exact ⟨N.out, (hB.out.drewN _).below _⟩
      · obtain rfl : k = n := by omega
        have N := Lib.hid (ret_sr (sameRs_yes HN.out HM.out hW.out))
        go_wp2
        go_ret
        exact ⟨N.out, hB.out.below _⟩
  · have N := Lib.hid (ret_sr (sameRs_len (L := L) (M := M) (by rw [HN.out, HM.out]; exact hnm)))
    go_enter Try.func45, Try.ntmps45
    go_wp2
    go_ret
    exact ⟨N.out, Below.refl _ _⟩

set_option maxRecDepth 100000 in
set_option maxHeartbeats 1000000 in
theorem sliceEqual_any (p q : Option Addr) (c d : Nat) (L M : List R2) (hL : L.length ≤ 1048576) (hM : M.length ≤ 1048576) (w : World) (hp : RsAt w p L) (hq : RsAt w q M) :
    Calls Try.prog 73 #[.slice p L.length c, .slice q M.length d] w fun e w' => e = .returned (.bool (sameRs L M)) ∧ Below w.heap.size w w' := by
  have P0 := Lib.hid hp
  have Q0 := Lib.hid hq
  obtain ⟨n, hn⟩ : ∃ n, L.length = n := ⟨_, rfl⟩
  obtain ⟨m, hm⟩ : ∃ m, M.length = m := ⟨_, rfl⟩
  have HN := Lib.hid hn
  have HM := Lib.hid hm
  rw [hn] at hL ⊢
  rw [hm] at hM ⊢
  clear hp hq hn hm
  by_cases hnm : n = m
  · subst hnm
    go_enter Try.func73, Try.ntmps73
    go_wp2
    go_loopw [13] (fun i wr => ∃ k : Nat, k ≤ n ∧ i = .int .i64 k ∧ Hid (rsTo L M k) ∧ Hid (Quiet w wr)) (fun i _ => n - (intOf i).toNat)
    case atStart => exact ⟨0, by omega, rfl, Lib.hid (fun i hi => absurd hi (by omega)), Lib.hid (Quiet.refl _)⟩
    case round =>
      obtain ⟨k, hk, rfl, hW, hB⟩ := hrel
      by_cases hlt : k < n
      · have hki : (k : Int) < n := by omega
        obtain ⟨e, he⟩ : ∃ e, L[k]? = some e := ⟨_, List.getElem?_eq_getElem (by rw [HN.out]; exact hlt)⟩
        obtain ⟨f, hf⟩ : ∃ f, M[k]? = some f := ⟨_, List.getElem?_eq_getElem (by rw [HM.out]; exact hlt)⟩
        obtain ⟨b, o, rfl, hr⟩ := P0.out k e he
        obtain ⟨b', o', rfl, hr'⟩ := Q0.out k f hf
        have c0 : wr.cell? ⟨b, o + k * 2, none⟩ = some (.int .i64 e.1) := (hB.out.cell _).trans (hr 0 _ rfl)
        have c1 : wr.cell? ⟨b, o + k * 2 + 1, none⟩ = some (.int .i16 e.2) := (hB.out.cell _).trans (hr 1 _ rfl)
        have d0 : wr.cell? ⟨b', o' + k * 2, none⟩ = some (.int .i64 f.1) := (hB.out.cell _).trans (hr' 0 _ rfl)
        have d1 : wr.cell? ⟨b', o' + k * 2 + 1, none⟩ = some (.int .i16 f.2) := (hB.out.cell _).trans (hr' 1 _ rfl)
        have HE := Lib.hid he
        have HF := Lib.hid hf
        clear hr hr' he hf
        obtain ⟨e0, e1⟩ := e
        obtain ⟨f0, f1⟩ := f
        simp only at c0 c1 d0 d1
        by_cases h0 : e0 = f0
        · subst h0
          by_cases h1 : e1 = f1
          · subst h1
            have N := Lib.hid (rsTo_snoc hW.out HE.out HF.out (by simp [eqR]))
            go_wp2
            go_quiet (fail)
            go_wp2
            go_roundw
            case rel => exact ⟨k + 1, by omega, by go_num, N, Lib.hid (hB.out.drewN _)⟩
            case measure => simp [intOf]; omega
          · have N := Lib.hid (ret_sr (sameRs_no HE.out HF.out (by simp [eqR, h1])))
            go_wp2
            go_quiet (fail)
            go_wp2
            go_ret
            exact ⟨N.out, (hB.out.drewN _).below _⟩
        · have N := Lib.hid (ret_sr (sameRs_no HE.out HF.out (by simp [eqR, h0])))
          go_wp2
          go_quiet (fail)
          go_wp2
          go_ret
          exact ⟨N.out, (hB.out.drewN _).below _⟩
      · obtain rfl : k = n := by omega
        have N := Lib.hid (ret_sr (sameRs_yes HN.out HM.out hW.out))
        go_wp2
        go_ret
        exact ⟨N.out, hB.out.below _⟩
  · have N := Lib.hid (ret_sr (sameRs_len (L := L) (M := M) (by rw [HN.out, HM.out]; exact hnm)))
    go_enter Try.func73, Try.ntmps73
    go_wp2
    go_ret
    exact ⟨N.out, Below.refl _ _⟩

set_option maxRecDepth 100000 in
theorem implSameReadings_any (p q : Option Addr) (c d : Nat) (L M : List R2) (hL : L.length ≤ 1048576) (hM : M.length ≤ 1048576) (w : World) (hp : RsAt w p L) (hq : RsAt w q M) :
    Calls Try.prog 46 #[.slice p L.length c, .slice q M.length d] w fun e w' => e = .returned (.bool (sameRs L M)) ∧ Below w.heap.size w w' := by
  have T := sliceEqual_any p q c d L M hL hM w hp hq
  obtain ⟨n, hn⟩ : ∃ n, L.length = n := ⟨_, rfl⟩
  obtain ⟨m, hm⟩ : ∃ m, M.length = m := ⟨_, rfl⟩
  rw [hn, hm] at T
  rw [hn, hm]
  clear hn hm hL hM
  go_enter Try.func46, Try.ntmps46
  go_wp2_with (go_at_call 73; refine T.mono ?_; rintro e V ⟨rfl, hV⟩; have HV := Lib.hid hV; clear hV)
  go_ret
  exact ⟨rfl, HV.out⟩
end Go.Proofs.Ythklihenghnaeaa
