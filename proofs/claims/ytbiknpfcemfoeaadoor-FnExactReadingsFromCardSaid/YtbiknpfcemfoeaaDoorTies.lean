/- checkReadings, and TiesIn, the program's and the model's, as values. Condition: the sentinels lie where they are laid; at most 2^20 readings. -/
import Derived.Test.YtbiknpfcemfoeaaDoorIsE
import Derived.Test.YtbiknpfcemfoeaaDoorVr
namespace Go.Proofs.YtbiknpfcemfoeaaDoor
open Go Go.RowKit Ieee
set_option linter.unusedSimpArgs false
set_option linter.unusedVariables false
attribute [local go_sem] run_store_f32

theorem below_drewN2 {n : Nat} {w w' : World} (h : Below n w w') (k : Nat) : Below n w (w'.drewN k) := h.trans (⟨rfl, rfl, rfl, Nat.le_refl _, fun _ _ => rfl⟩)
def ckR (L : List R2) : Option Nat := if okRs L = true then none else some 0
theorem ckR_lt {L : List R2} : ∀ i, ckR L = some i → i < 5 := by
  intro i h
  unfold ckR at h
  split at h
  · cases h
  · cases h; decide
theorem okRs_le {L : List R2} (h : okRs L = true) : L.length ≤ 40 := by
  simp only [okRs, Bool.and_eq_true, decide_eq_true_eq] at h
  exact h.1

set_option maxRecDepth 100000 in
set_option maxHeartbeats 1000000 in
theorem checkReadings_any {s : Nat → Addr} (p : Option Addr) (c : Nat) (L : List R2) (hL : L.length ≤ 1048576) (w : World) (hp : RsAt w p L) (hS : Sents w s) :
    Calls Tryd.prog 51 #[.slice p L.length c] w fun e w' => e = .returned (erV s (ckR L)) ∧ Below w.heap.size w w' := by
  have T := implVr_any p c L hL w hp
  have HS := Lib.hid hS
  obtain ⟨n, hn⟩ : ∃ n, L.length = n := ⟨_, rfl⟩
  rw [hn] at T ⊢
  clear hn hL hp hS
  cases hk : okRs L
  · rw [hk] at T
    have G : ∀ V, Below w.heap.size w V → V.cell? ⟨3, 0, none⟩ = some (.iface 165 (.pointer (some (s 0)))) := fun V hV => (HS.out.keep hV).cell 0 (by decide)
    have HE := Lib.hid (show Value.iface 165 (.pointer (some (s 0))) = erV s (ckR L) by simp only [ckR, hk]; rfl)
    clear hk
    go_enter Tryd.func51, Tryd.ntmps51
    go_wp2_with (go_at_call 58; refine T.mono ?_; rintro e V ⟨rfl, hV⟩; have HV := Lib.hid hV; have g := G V hV; clear hV G)
    go_ret
    exact ⟨by first | (rw [HE.out]; done) | (rw [HE.out]; rfl), HV.out⟩
  · rw [hk] at T
    have HE := Lib.hid (show Value.nilIface = erV s (ckR L) by simp only [ckR, hk]; rfl)
    clear hk
    go_enter Tryd.func51, Tryd.ntmps51
    go_wp2_with (go_at_call 58; refine T.mono ?_; rintro e V ⟨rfl, hV⟩; have HV := Lib.hid hV; clear hV)
    go_ret
    exact ⟨by first | (rw [HE.out]; done) | (rw [HE.out]; rfl), HV.out⟩

/-- Whether a reading has the level of the one before. -/
def sameLv (L : List R2) (i : Nat) : Bool := match L[i + 1]?, L[i]? with | some e, some f => e.2 == f.2 | _, _ => false
def tieTo (L : List R2) : Nat → Int
  | 0 => 0
  | i + 1 => tieTo L i + (if sameLv L i = true then 1 else 0)
theorem tieTo_rng (L : List R2) (k : Nat) : 0 ≤ tieTo L k ∧ tieTo L k ≤ k := by
  induction k with
  | zero => simp [tieTo]
  | succ k ih =>
    simp only [tieTo]
    split <;> omega
def tieV (L : List R2) : Int := if okRs L = true then tieTo L (L.length - 1) else 0
def tieK (L : List R2) : Int := if okRs L = true then 0 else 1

end Go.Proofs.YtbiknpfcemfoeaaDoor
