/- SameWells, the program's and the model's, as a value of two lists. Condition: at most 2^20 wells each. -/
import Derived.Test.YtoeajnpailgljaaWs
import Derived.BigQuiet
import Derived.Deep.QuietTactic
import Derived.Deep.RegionHeld3
namespace Go.Proofs.Ytoeajnpailgljaa
open Go Go.RowKit Ieee
set_option linter.unusedSimpArgs false
set_option linter.unusedVariables false

def nanW (a : Nat) : Bool := FloatKind.f32.format.order a a != some .eq
/-- Two numbers are the same. -/
def sameN (a b : Nat) : Bool := if (nanW a || nanW b) = true then nanW a && nanW b else (a : Int) == b
theorem f32bitsW (b : Nat) (w : World) : (callFunc 92 #[.float .f32 b]).run Try.prog w = .ok (.value (.int .u32 b)) w := by kernel_rfl
theorem l01SameN_any (a b : Nat) (w : World) : Calls Try.prog 64 #[.float .f32 a, .float .f32 b] w fun e w' => e = .returned (.bool (sameN a b)) ∧ w = w' := by
  have hf := f32bitsW
  cases ha : nanW a <;> cases hb : nanW b <;> unfold nanW at ha hb
  all_goals
    go_enter Try.func64, Try.ntmps64
    go_wp2
    go_ret
    exact ⟨ret_bool (by simp [sameN, nanW, ha, hb]), rfl⟩
theorem implSameN_any (a b : Nat) (w : World) : Calls Try.prog 77 #[.float .f32 a, .float .f32 b] w fun e w' => e = .returned (.bool (sameN a b)) ∧ w = w' := by
  have hf := f32bitsW
  cases ha : nanW a <;> cases hb : nanW b <;> unfold nanW at ha hb
  all_goals
    go_enter Try.func77, Try.ntmps77
    go_wp2
    go_ret
    exact ⟨ret_bool (by simp [sameN, nanW, ha, hb]), rfl⟩
theorem l01SameN_is (a b : Nat) (r : Bool) (h : sameN a b = r) (w : World) : Calls Try.prog 64 #[.float .f32 a, .float .f32 b] w fun e w' => e = .returned (.bool r) ∧ w' = w := by
  subst h
  exact (l01SameN_any a b w).mono fun e w' h => ⟨h.1, h.2.symm⟩
theorem implSameN_is (a b : Nat) (r : Bool) (h : sameN a b = r) (w : World) : Calls Try.prog 77 #[.float .f32 a, .float .f32 b] w fun e w' => e = .returned (.bool r) ∧ w' = w := by
  subst h
  exact (implSameN_any a b w).mono fun e w' h => ⟨h.1, h.2.symm⟩

def eqW (e f : W3) : Bool := !((e.1 != f.1) || ((e.2.1 != f.2.1) || !sameN e.2.2 f.2.2))
/-- The first k wells are the same. -/
def wsTo (L M : List W3) (k : Nat) : Prop := ∀ i e f, i < k → L[i]? = some e → M[i]? = some f → eqW e f = true
open Classical in
/-- Two lists of wells are the same. -/
noncomputable def sameWs (L M : List W3) : Bool := if L.length = M.length ∧ wsTo L M L.length then true else false
theorem sameWs_len {L M : List W3} (h : L.length ≠ M.length) : sameWs L M = false := by simp [sameWs, h]
theorem sameWs_yes {L M : List W3} {n : Nat} (h1 : L.length = n) (h2 : M.length = n) (h : wsTo L M n) : sameWs L M = true := by
  subst h1
  simp [sameWs, h2, h]
theorem sameWs_no {L M : List W3} {k : Nat} {e f : W3} (he : L[k]? = some e) (hf : M[k]? = some f) (h : eqW e f = false) : sameWs L M = false := by
  have hn : ¬ (L.length = M.length ∧ wsTo L M L.length) := fun ⟨_, hw⟩ => by
    have := hw k e f (List.getElem?_eq_some_iff.1 he).1 he hf
    rw [h] at this
    cases this
  simp only [sameWs, if_neg hn]
theorem wsTo_snoc {L M : List W3} {k : Nat} {e f : W3} (h : wsTo L M k) (he : L[k]? = some e) (hf : M[k]? = some f) (hq : eqW e f = true) : wsTo L M (k + 1) := fun i e' f' hi he' hf' => by
  by_cases hik : i = k
  · subst hik
    rw [he] at he'; rw [hf] at hf'
    cases he'; cases hf'
    exact hq
  · exact h i e' f' (by omega) he' hf'
theorem ret_ws {r : Bool} {L M : List W3} (h : sameWs L M = r) : Ending.returned (.bool r) = .returned (.bool (sameWs L M)) := by rw [h]

theorem specSameN_is (a b : Nat) (r : Bool) (h : sameN a b = r) (w : World) : Calls Try.prog 23 #[.float .f32 a, .float .f32 b] w fun e w' => e = .returned (.bool r) ∧ w' = w := by
  have H := Lib.hid h
  clear h
  go_enter Try.func23, Try.ntmps23
  go_wp2_with (go_at_call 64; refine (l01SameN_is a b r H.out _).mono ?_; rintro e w' ⟨rfl, hw⟩; rw [hw])
  go_ret
  exact ⟨rfl, rfl⟩

set_option maxRecDepth 100000 in
set_option maxHeartbeats 1000000 in
theorem specSameWells_any (p q : Option Addr) (c d : Nat) (L M : List W3) (hL : L.length ≤ 1048576) (hM : M.length ≤ 1048576) (w : World) (hp : WsAt w p L) (hq : WsAt w q M) :
    Calls Try.prog 39 #[.slice p L.length c, .slice q M.length d] w fun e w' => e = .returned (.bool (sameWs L M)) ∧ Below w.heap.size w w' := by
  have P0 := Lib.hid hp
  have Q0 := Lib.hid hq
  obtain ⟨n, hn⟩ : ∃ n, L.length = n := ⟨_, rfl⟩
  obtain ⟨m, hm⟩ : ∃ m, M.length = m := ⟨_, rfl⟩
  have HN := Lib.hid hn
  have HM := Lib.hid hm
  rw [hn] at hL ⊢
  rw [hm] at hM ⊢
  clear hp hq hn hm
  by_cases hnm : n = m
  · subst hnm
    go_enter Try.func39, Try.ntmps39
    go_wp2
    go_loopw [5] (fun i wr => ∃ k : Nat, k ≤ n ∧ i = .int .i64 k ∧ Hid (wsTo L M k) ∧ Hid (Quiet w wr)) (fun i _ => n - (intOf i).toNat)
    case atStart => exact ⟨0, by omega, rfl, Lib.hid (fun i _ _ hi => absurd hi (by omega)), Lib.hid (Quiet.refl _)⟩
    case round =>
      obtain ⟨k, hk, rfl, hW, hB⟩ := hrel
      by_cases hlt : k < n
      · have hki : (k : Int) < n := by omega
        obtain ⟨e, he⟩ : ∃ e, L[k]? = some e := ⟨_, List.getElem?_eq_getElem (by rw [HN.out]; exact hlt)⟩
        obtain ⟨f, hf⟩ : ∃ f, M[k]? = some f := ⟨_, List.getElem?_eq_getElem (by rw [HM.out]; exact hlt)⟩
        obtain ⟨b, o, rfl, hr⟩ := P0.out k e he
        obtain ⟨b', o', rfl, hr'⟩ := Q0.out k f hf
        have c0 : wr.cell? ⟨b, o + k * 3, none⟩ = some (.int .i8 e.1) := (hB.out.cell _).trans (hr 0 _ rfl)
        have c1 : wr.cell? ⟨b, o + k * 3 + 1, none⟩ = some (.int .i8 e.2.1) := (hB.out.cell _).trans (hr 1 _ rfl)
        have c2 : wr.cell? ⟨b, o + k * 3 + 2, none⟩ = some (.float .f32 e.2.2) := (hB.out.cell _).trans (hr 2 _ rfl)
        have d0 : wr.cell? ⟨b', o' + k * 3, none⟩ = some (.int .i8 f.1) := (hB.out.cell _).trans (hr' 0 _ rfl)
        have d1 : wr.cell? ⟨b', o' + k * 3 + 1, none⟩ = some (.int .i8 f.2.1) := (hB.out.cell _).trans (hr' 1 _ rfl)
        have d2 : wr.cell? ⟨b', o' + k * 3 + 2, none⟩ = some (.float .f32 f.2.2) := (hB.out.cell _).trans (hr' 2 _ rfl)
        have HE := Lib.hid he
        have HF := Lib.hid hf
        clear hr hr' he hf
        cases e0 : (e.1 != f.1)
        · cases e1 : (e.2.1 != f.2.1)
          · cases hs : sameN e.2.2 f.2.2
            · have Hs := Lib.hid hs
              have N := Lib.hid (ret_ws (sameWs_no HE.out HF.out (by simp only [eqW, e0, e1, hs]; rfl)))
              clear hs
              go_wp2
              go_quiet ((go_at_call 23; exact Calls.quiet_of_same (specSameN_is _ _ false Hs.out _)))
              go_wp2
              go_ret
              exact ⟨N.out, (hB.out.drewN _).below _⟩
            · have Hs := Lib.hid hs
              have N := Lib.hid (wsTo_snoc hW.out HE.out HF.out (by simp only [eqW, e0, e1, hs]; rfl))
              clear hs
              go_wp2
              go_quiet ((go_at_call 23; exact Calls.quiet_of_same (specSameN_is _ _ true Hs.out _)))
              go_wp2
              go_roundw
              case rel => exact ⟨k + 1, by omega, by go_num, N, Lib.hid (hB.out.drewN _)⟩
              case measure => simp [intOf]; omega
          · have N := Lib.hid (ret_ws (sameWs_no HE.out HF.out (by simp only [eqW, e0, e1]; rfl)))
            go_wp2
            go_quiet (fail)
            go_wp2
            go_ret
            exact ⟨N.out, (hB.out.drewN _).below _⟩
        · have N := Lib.hid (ret_ws (sameWs_no HE.out HF.out (by simp only [eqW, e0]; rfl)))
          go_wp2
          go_quiet (fail)
          go_wp2
          go_ret
          exact ⟨N.out, (hB.out.drewN _).below _⟩
      · obtain rfl : k = n := by omega
        have N := Lib.hid (ret_ws (sameWs_yes HN.out HM.out hW.out))
        go_wp2
        go_ret
        exact ⟨N.out, hB.out.below _⟩
  · have N := Lib.hid (ret_ws (sameWs_len (L := L) (M := M) (by rw [HN.out, HM.out]; exact hnm)))
    go_enter Try.func39, Try.ntmps39
    go_wp2
    go_ret
    exact ⟨N.out, Below.refl _ _⟩
end Go.Proofs.Ytoeajnpailgljaa
