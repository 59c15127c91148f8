/- The sum of a list of numbers, the model's. Condition: at most 1000 of them. -/
import Derived.Test.YtbiknpfcemfoeaaDoorLn
import Derived.Deep.Upon
namespace Go.Proofs.YtbiknpfcemfoeaaDoor
open Go Go.RowKit Ieee
set_option linter.unusedSimpArgs false
set_option linter.unusedVariables false
attribute [local go_sem] run_store_float

/-- The sum of numbers, from the first one on. -/
def smN (rs : List Nat) : Nat → Option Nat
  | 0 => num .f32 0
  | 1 => (match rs[0]? with | some r => num .f32 r | none => none)
  | k + 2 => fop .f32 .add (smN rs (k + 1)) (match rs[k + 1]? with | some r => num .f32 r | none => none)
theorem smN_succ {rs : List Nat} {k r : Nat} (hk : 1 ≤ k) (hr : rs[k]? = some r) : smN rs (k + 1) = fop .f32 .add (smN rs k) (num .f32 r) := by
  obtain ⟨j, rfl⟩ : ∃ j, k = j + 1 := ⟨k - 1, by omega⟩
  simp only [smN, hr]
set_option maxRecDepth 100000 in
set_option maxHeartbeats 1000000 in
theorem l03Sum_any (g cap : Nat) (rs : List Nat) (hn : rs.length ≤ 1000) (w : World) (hc : ∀ j r, rs[j]? = some r → w.cell? ⟨g, j, none⟩ = some (.float .f32 r)) :
    Calls Tryd.prog 66 #[.slice (some ⟨g, 0, none⟩) rs.length cap] w (GvB (smN rs rs.length) w) := by
  have HC := Lib.hid hc
  obtain ⟨n, hln⟩ : ∃ n, rs.length = n := ⟨_, rfl⟩
  have HN := Lib.hid hln
  rw [hln] at hn ⊢
  clear hc hln
  rcases Nat.eq_zero_or_pos n with h0 | h0
  · subst h0
    go_enter Tryd.func66, Tryd.ntmps66
    go_wp2
    go_ret
    exact ⟨0, rfl, rfl, Below.refl _ _⟩
  · obtain ⟨r0, hr0⟩ : ∃ r, rs[0]? = some r := ⟨_, List.getElem?_eq_getElem (by rw [HN.out]; exact h0)⟩
    have c0 : w.cell? ⟨g, 0, none⟩ = some (.float .f32 r0) := HC.out 0 r0 hr0
    have H0 := Lib.hid (show num .f32 r0 = smN rs 1 by simp only [smN, hr0])
    have hn0 : ¬ n = 0 := by omega
    have hn1 : ¬ (n : Int) = 0 := by omega
    clear hr0
    go_enter Tryd.func66, Tryd.ntmps66
    go_wp2
    go_loopw [4, 3] (fun (i a : Value) (wr : World) => ∃ (k r : Nat), 1 ≤ k ∧ k ≤ n ∧ i = .int .i64 (k : Int) ∧ a = .float .f32 r ∧ Hid (num .f32 r = smN rs k) ∧ Hid (Quiet w wr)) (fun i _ _ => n - (intOf i).toNat)
    case atStart => exact ⟨1, r0, by omega, by omega, rfl, rfl, H0, Lib.hid (Quiet.refl _)⟩
    case round =>
      obtain ⟨k, r, hk1, hk, rfl, rfl, hR, hB⟩ := hrel
      by_cases hlt : k < n
      · have hki : (k : Int) < n := by omega
        obtain ⟨q, hq⟩ : ∃ q, rs[k]? = some q := ⟨_, List.getElem?_eq_getElem (by rw [HN.out]; exact hlt)⟩
        have c1 : wr.cell? ⟨g, k, none⟩ = some (.float .f32 q) := (hB.out.cell _).trans (HC.out k q hq)
        have c2 : wr.cell? ⟨g, 0 + k, none⟩ = some (.float .f32 q) := by rw [Nat.zero_add]; exact c1
        have HQ := Lib.hid hq
        clear hq
        go_wp2_with (refine wpList_float rfl _ _ _ _ _ rfl rfl .f32 _ _ rfl rfl ?_; intro z m hz; have HZ := Lib.hid hz; clear hz)
        go_roundw
        case rel =>
          rw [show ((n : Int) == 0) = false by simp; omega]
          exact ⟨_, _, _, _, _, _, _, _, _, _, _, _, _, _, ⟨k + 1, z, by omega, by omega, rfl, rfl, Lib.hid (by rw [smN_succ hk1 HQ.out, HZ.out, hR.out]), Lib.hid (hB.out.drewN _)⟩, rfl⟩
        case measure => simp [intOf]; omega
      · obtain rfl : k = n := by omega
        go_wp2
        go_ret
        exact ⟨r, rfl, hR.out, hB.out.below _⟩
end Go.Proofs.YtbiknpfcemfoeaaDoor
