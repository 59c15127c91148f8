/- checkReadings, and TiesIn, the program's and the model's, as values. Condition: the sentinels lie where they are laid; at most 2^20 readings. -/
import Derived.Test.YthklihenghnaeabDoorIsE
import Derived.Test.YthklihenghnaeabDoorVr
namespace Go.Proofs.YthklihenghnaeabDoor
open Go Go.RowKit Ieee
set_option linter.unusedSimpArgs false
set_option linter.unusedVariables false
attribute [local go_sem] run_store_f32

theorem below_drewN2 {n : Nat} {w w' : World} (h : Below n w w') (k : Nat) : Below n w (w'.drewN k) := h.trans (⟨rfl, rfl, rfl, Nat.le_refl _, fun _ _ => rfl⟩)
def ckR (L : List R2) : Option Nat := if okRs L = true then none else some 0
theorem ckR_lt {L : List R2} : ∀ i, ckR L = some i → i < 5 := by
  intro i h
  unfold ckR at h
  split at h
  · cases h
  · cases h; decide
theorem okRs_le {L : List R2} (h : okRs L = true) : L.length ≤ 40 := by
  simp only [okRs, Bool.and_eq_true, decide_eq_true_eq] at h
  exact h.1

set_option maxRecDepth 100000 in
set_option maxHeartbeats 1000000 in
theorem checkReadings_any {s : Nat → Addr} (p : Option Addr) (c : Nat) (L : List R2) (hL : L.length ≤ 1048576) (w : World) (hp : RsAt w p L) (hS : Sents w s) :
    Calls Tryd.prog 63 #[.slice p L.length c] w fun e w' => e = .returned (erV s (ckR L)) ∧ Below w.heap.size w w' := by
  have T := implVr_any p c L hL w hp
  have HS := Lib.hid hS
  obtain ⟨n, hn⟩ : ∃ n, L.length = n := ⟨_, rfl⟩
  rw [hn] at T ⊢
  clear hn hL hp hS
  cases hk : okRs L
  · rw [hk] at T
    have G : ∀ V, Below w.heap.size w V → V.cell? ⟨1, 0, none⟩ = some (.iface 203 (.pointer (some (s 0)))) := fun V hV => (HS.out.keep hV).cell 0 (by decide)
    have HE := Lib.hid (show Value.iface 203 (.pointer (some (s 0))) = erV s (ckR L) by simp only [ckR, hk]; rfl)
    clear hk
    go_enter Tryd.func63, Tryd.ntmps63
    go_wp2_with (go_at_call 99; refine T.mono ?_; rintro e V ⟨rfl, hV⟩; have HV := Lib.hid hV; have g := G V hV; clear hV G)
    go_ret
    exact ⟨by first | (rw [HE.out]; done) | (rw [HE.out]; rfl), HV.out⟩
  · rw [hk] at T
    have HE := Lib.hid (show Value.nilIface = erV s (ckR L) by simp only [ckR, hk]; rfl)
    clear hk
    go_enter Tryd.func63, Tryd.ntmps63
    go_wp2_with (go_at_call 99; refine T.mono ?_; rintro e V ⟨rfl, hV⟩; have HV := Lib.hid hV; clear hV)
    go_ret
    exact ⟨by first | (rw [HE.out]; done) | (rw [HE.out]; rfl), HV.out⟩

/-- Whether a reading has the level of the one before. -/
def sameLv (L : List R2) (i : Nat) : Bool := match L[i + 1]?, L[i]? with | some e, some f => e.2 == f.2 | _, _ => false
def tieTo (L : List R2) : Nat → Int
  | 0 => 0
  | i + 1 => tieTo L i + (if sameLv L i = true then 1 else 0)
theorem tieTo_rng (L : List R2) (k : Nat) : 0 ≤ tieTo L k ∧ tieTo L k ≤ k := by
  induction k with
  | zero => simp [tieTo]
  | succ k ih =>
    simp only [tieTo]
    split <;> omega
def tieV (L : List R2) : Int := if okRs L = true then tieTo L (L.length - 1) else 0
def tieK (L : List R2) : Int := if okRs L = true then 0 else 1

set_option maxRecDepth 100000 in
set_option maxHeartbeats 1000000 in
theorem specTies_any (p : Option Addr) (c : Nat) (L : List R2) (hL : L.length ≤ 1048576) (w : World) (hp : RsAt w p L) :
    Calls Tryd.prog 20 #[.slice p L.length c] w fun e w' => e = .returned (.tuple #[.int .i64 (tieV L), .int .i64 (tieK L)]) ∧ Below w.heap.size w w' := by
  have T := l04Ok_any p c L hL w hp
  have P0 := Lib.hid hp
  obtain ⟨n, hn⟩ : ∃ n, L.length = n := ⟨_, rfl⟩
  have HN := Lib.hid hn
  rw [hn] at T hL ⊢
  clear hn hp
  cases hk : okRs L
  · rw [hk] at T
    have HE := Lib.hid (show tieV L = 0 ∧ tieK L = 1 by simp [tieV, tieK, hk])
    clear hk
    go_enter Tryd.func20, Tryd.ntmps20
    go_wp2_with (go_at_call 61; refine T.mono ?_; rintro e V ⟨rfl, hV⟩; have HV := Lib.hid hV; clear hV)
    go_ret2
    exact ⟨by rw [HE.out.1, HE.out.2]; first | done | rfl, HV.out⟩
  · rw [hk] at T
    have h40 := okRs_le hk
    rw [HN.out] at h40
    have HE := Lib.hid (show tieV L = tieTo L (n - 1) ∧ tieK L = 0 by simp [tieV, tieK, hk, HN.out])
    clear hk
    go_enter Tryd.func20, Tryd.ntmps20
    go_wp2_with (go_at_call 61; refine T.mono ?_; rintro e V ⟨rfl, hV⟩; have HV := Lib.hid hV; clear hV T)
    go_loopw [5, 4] (fun i t wr => ∃ k : Nat, k ≤ n - 1 ∧ i = .int .i64 ((k : Int) + 1) ∧ t = .int .i64 (tieTo L k) ∧ Hid (Below w.heap.size w wr)) (fun i _ _ => n - (intOf i).toNat)
    case atStart => exact ⟨0, by omega, rfl, rfl, HV⟩
    case round =>
      obtain ⟨k, hk, rfl, rfl, hB⟩ := hrel
      obtain ⟨r1, r2⟩ := tieTo_rng L k
      by_cases hlt : k + 1 < n
      · have hki : (k : Int) + 1 < n := by omega
        obtain ⟨e, he⟩ : ∃ e, L[k + 1]? = some e := ⟨_, List.getElem?_eq_getElem (by rw [HN.out]; exact hlt)⟩
        obtain ⟨f, hf⟩ : ∃ f, L[k]? = some f := ⟨_, List.getElem?_eq_getElem (by rw [HN.out]; omega)⟩
        obtain ⟨b, o, rfl, hr⟩ := (P0.out.keep hB.out) (k + 1) e he
        obtain ⟨b', o', hbo, hr'⟩ := (P0.out.keep hB.out) k f hf
        cases hbo
        have c1 : wr.cell? ⟨b, o + (k + 1) * 2 + 1, none⟩ = some (.int .i16 e.2) := hr 1 _ rfl
        have d1 : wr.cell? ⟨b, o + k * 2 + 1, none⟩ = some (.int .i16 f.2) := hr' 1 _ rfl
        have hs : sameLv L k = (e.2 == f.2) := by simp only [sameLv, he, hf]
        have hstep : tieTo L (k + 1) = tieTo L k + (if (e.2 == f.2) = true then 1 else 0) := by simp only [tieTo, hs]
        obtain ⟨ta, hta⟩ : ∃ ta, tieTo L k = ta := ⟨_, rfl⟩
        rw [hta] at r1 r2 hstep ⊢
        have HST := Lib.hid hstep
        clear hr hr' he hf hs hstep hta
        cases hq : (e.2 == f.2)
        · have HST' := Lib.hid (show tieTo L (k + 1) = ta by rw [HST.out, hq]; simp)
          clear HST
          go_wp2
          go_quiet (fail)
          go_wp2
          go_roundw
          case rel => exact ⟨k + 1, by omega, by go_num, by rw [HST'.out], Lib.hid (below_drewN2 hB.out _)⟩
          case measure => simp [intOf]; omega
        · have HST' := Lib.hid (show tieTo L (k + 1) = ta + 1 by rw [HST.out, hq]; simp)
          clear HST
          go_wp2
          go_quiet (fail)
          go_wp2
          go_roundw
          case rel => exact ⟨k + 1, by omega, by go_num, by rw [HST'.out]; first | done | go_num, Lib.hid (below_drewN2 hB.out _)⟩
          case measure => simp [intOf]; omega
      · have hkn : ¬ (k : Int) + 1 < n := by omega
        obtain rfl : k = n - 1 := by omega
        go_wp2
        go_ret2
        exact ⟨by rw [HE.out.1, HE.out.2]; first | done | rfl, hB.out⟩
set_option maxRecDepth 100000 in
set_option maxHeartbeats 1000000 in
theorem implTies_any {s : Nat → Addr} (p : Option Addr) (c : Nat) (L : List R2) (hL : L.length ≤ 1048576) (w : World) (hp : RsAt w p L) (hS : Sents w s) :
    Calls Tryd.prog 22 #[.slice p L.length c] w fun e w' => e = .returned (.tuple #[.int .i64 (tieV L), .int .i64 (tieK L)]) ∧ Below w.heap.size w w' := by
  have T := checkReadings_any p c L hL w hp hS
  have HS := Lib.hid hS
  have P0 := Lib.hid hp
  obtain ⟨n, hn⟩ : ∃ n, L.length = n := ⟨_, rfl⟩
  have HN := Lib.hid hn
  rw [hn] at T hL ⊢
  clear hn hp
  cases hk : okRs L
  · have hke : ckR L = some 0 := by simp [ckR, hk]
    have HE := Lib.hid (show tieV L = 0 ∧ tieK L = 1 by simp [tieV, tieK, hk])
    rw [hke] at T
    have TC := fun (V : World) (h : Sents V s) => codeOf_any (s := s) (some 0) (by decide) V h
    simp only [erV] at T TC
    clear hk hke hS
    go_enter Tryd.func22, Tryd.ntmps22
    go_wp2_with (first | (go_at_call 63; refine T.mono ?_; rintro e V ⟨rfl, hV⟩; have HV := Lib.hid hV; clear hV) | (go_at_call 60; refine (TC _ (HS.out.keep HV.out)).mono ?_; rintro e V2 ⟨rfl, hV⟩; rw [hV]; clear hV))
    go_ret2
    exact ⟨by rw [HE.out.1, HE.out.2]; first | done | rfl, HV.out⟩
  · have hke : ckR L = none := by simp [ckR, hk]
    rw [hke] at T
    simp only [erV] at T
    have h40 := okRs_le hk
    rw [HN.out] at h40
    have HE := Lib.hid (show tieV L = tieTo L (n - 1) ∧ tieK L = 0 by simp [tieV, tieK, hk, HN.out])
    clear hk hke hS
    go_enter Tryd.func22, Tryd.ntmps22
    go_wp2_with (go_at_call 63; refine T.mono ?_; rintro e V ⟨rfl, hV⟩; have HV := Lib.hid hV; clear hV T)
    go_loopw [6, 5] (fun i t wr => ∃ k : Nat, k ≤ n - 1 ∧ i = .int .i64 ((k : Int) + 1) ∧ t = .int .i64 (tieTo L k) ∧ Hid (Below w.heap.size w wr)) (fun i _ _ => n - (intOf i).toNat)
    case atStart => exact ⟨0, by omega, rfl, rfl, HV⟩
    case round =>
      obtain ⟨k, hk, rfl, rfl, hB⟩ := hrel
      obtain ⟨r1, r2⟩ := tieTo_rng L k
      by_cases hlt : k + 1 < n
      · have hki : (k : Int) + 1 < n := by omega
        obtain ⟨e, he⟩ : ∃ e, L[k + 1]? = some e := ⟨_, List.getElem?_eq_getElem (by rw [HN.out]; exact hlt)⟩
        obtain ⟨f, hf⟩ : ∃ f, L[k]? = some f := ⟨_, List.getElem?_eq_getElem (by rw [HN.out]; omega)⟩
        obtain ⟨b, o, rfl, hr⟩ := (P0.out.keep hB.out) (k + 1) e he
        obtain ⟨b', o', hbo, hr'⟩ := (P0.out.keep hB.out) k f hf
        cases hbo
        have c1 : wr.cell? ⟨b, o + (k + 1) * 2 + 1, none⟩ = some (.int .i16 e.2) := hr 1 _ rfl
        have d1 : wr.cell? ⟨b, o + k * 2 + 1, none⟩ = some (.int .i16 f.2) := hr' 1 _ rfl
        have hs : sameLv L k = (e.2 == f.2) := by simp only [sameLv, he, hf]
        have hstep : tieTo L (k + 1) = tieTo L k + (if (e.2 == f.2) = true then 1 else 0) := by simp only [tieTo, hs]
        obtain ⟨ta, hta⟩ : ∃ ta, tieTo L k = ta := ⟨_, rfl⟩
        rw [hta] at r1 r2 hstep ⊢
        have HST := Lib.hid hstep
        clear hr hr' he hf hs hstep hta
        cases hq : (e.2 == f.2)
        · have HST' := Lib.hid (show tieTo L (k + 1) = ta by rw [HST.out, hq]; simp)
          clear HST
          go_wp2
          go_quiet (fail)
          go_wp2
          go_roundw
          case rel => exact ⟨k + 1, by omega, by go_num, by rw [HST'.out], Lib.hid (below_drewN2 hB.out _)⟩
          case measure => simp [intOf]; omega
        · have HST' := Lib.hid (show tieTo L (k + 1) = ta + 1 by rw [HST.out, hq]; simp)
          clear HST
          go_wp2
          go_quiet (fail)
          go_wp2
          go_roundw
          case rel => exact ⟨k + 1, by omega, by go_num, by rw [HST'.out]; first | done | go_num, Lib.hid (below_drewN2 hB.out _)⟩
          case measure => simp [intOf]; omega
      · have hkn : ¬ (k : Int) + 1 < n := by omega
        obtain rfl : k = n - 1 := by omega
        go_wp2
        go_ret2
        exact ⟨by rw [HE.out.1, HE.out.2]; first | done | rfl, hB.out⟩
end Go.Proofs.YthklihenghnaeabDoor
