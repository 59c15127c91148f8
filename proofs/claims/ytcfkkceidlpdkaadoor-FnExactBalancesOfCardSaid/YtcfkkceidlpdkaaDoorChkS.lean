/- The model's checks of grounds, cells and sides. No condition. -/
import Derived.Test.YtcfkkceidlpdkaaDoorValid
namespace Go.Proofs.YtcfkkceidlpdkaaDoor
open Go.RowKit
set_option linter.unusedSimpArgs false

/-- There is a cell with a number, any number. -/
def inB (G : Gd) (c : Int) : Bool := decide (0 ≤ c) && decide (c ≤ 63) && isB G c.toNat
theorem inB_nat (G : Gd) (i : Nat) (hi : i < 64) : inB G i = isB G i := by
  have h1 : (0 : Int) ≤ i := by omega
  have h2 : (i : Int) ≤ 63 := by omega
  simp [inB, h1, h2]
theorem inB_cast {G : Gd} {c : Int} (h : inB G c = true) : ∃ k : Nat, c = k ∧ k < 64 ∧ isB G k = true := by
  simp only [inB, Bool.and_eq_true, decide_eq_true_eq] at h
  exact ⟨c.toNat, by omega, by omega, h.2⟩

theorem l01Is_out (G : Gd) (c : Int) (h : c < 0 ∨ 63 < c) (p : Nat) (w : World) (hp : GrdAt w p 0 G) :
    Calls Tryd.prog 61 #[.pointer (some ⟨p, 0, none⟩), .int .i64 c] w fun e w' => e = .returned (.bool false) ∧ w' = w := by
  have a0 := hp.wide; have a1 := hp.high
  rw [Nat.zero_add] at a1
  clear hp
  rcases h with h | h
  · have h1 : decide (0 ≤ c) = false := by simpa using h
    go_enter Tryd.func61, Tryd.ntmps61
    go_wp2
    go_ret
    exact ⟨rfl, rfl⟩
  · have h1 : decide (c ≤ 63) = false := by simpa using h
    have h0 : 0 ≤ c := by omega
    go_enter Tryd.func61, Tryd.ntmps61
    go_wp2
    go_ret
    exact ⟨rfl, rfl⟩

theorem l01Is_int (G : Gd) (c : Int) (p : Nat) (w : World) (hp : GrdAt w p 0 G) (hG : GdOk G) :
    Calls Tryd.prog 61 #[.pointer (some ⟨p, 0, none⟩), .int .i64 c] w fun e w' => e = .returned (.bool (inB G c)) ∧ w = w' := by
  by_cases h : c < 0 ∨ 63 < c
  · have : inB G c = false := by
      simp only [inB]
      rcases h with h | h
      · have : ¬ (0 ≤ c) := by omega
        simp [this]
      · have : ¬ (c ≤ 63) := by omega
        simp [this]
    rw [this]
    exact (l01Is_out G c h p w hp).mono fun e w' ⟨h1, h2⟩ => ⟨h1, h2.symm⟩
  · obtain ⟨k, rfl⟩ : ∃ k : Nat, c = k := ⟨c.toNat, by omega⟩
    have hk : k < 64 := by omega
    rw [inB_nat G k hk]
    exact (l01Is_is G k hk _ rfl p w hp hG).mono fun e w' ⟨h1, h2⟩ => ⟨h1, h2.symm⟩

/-- The code of a ground and a cell. -/
def askedN (G : Gd) (c : Int) : Int := if validB G = true then (if inB G c = true then 0 else 2) else 1
theorem ret_i64 {a b : Int} (h : a = b) : Ending.returned (.int .i64 a) = .returned (.int .i64 b) := by rw [h]

set_option maxRecDepth 100000 in
theorem l01Asked_any (G : Gd) (c : Int) (p : Nat) (w : World) (hp : GrdAt w p 0 G) (hG : GdOk G) :
    Calls Tryd.prog 51 #[.pointer (some ⟨p, 0, none⟩), .int .i64 c] w fun e w' => e = .returned (.int .i64 (askedN G c)) ∧ Quiet w w' := by
  have Hp := Lib.hid hp
  have HG := Lib.hid hG
  clear hp hG
  cases hv : validB G
  · have R := Lib.hid (show askedN G c = 1 by simp [askedN, hv])
    have Hv := Lib.hid hv
    clear hv
    go_enter Tryd.func51, Tryd.ntmps51
    go_wp2_with (go_at_call 55; have hc := (l01Ok_any G p _ Hp.out HG.out); rw [Hv.out] at hc; refine hc.mono ?_; clear hc; rintro e w' ⟨rfl, n, rfl⟩)
    go_ret
    exact ⟨ret_i64 R.out.symm, n, rfl⟩
  · cases hi : inB G c
    · have R := Lib.hid (show askedN G c = 2 by simp [askedN, hv, hi])
      have Hv := Lib.hid hv
      have Hi := Lib.hid hi
      clear hv hi
      go_enter Tryd.func51, Tryd.ntmps51
      go_wp2_with (first | (go_at_call 55; have hc := (l01Ok_any G p _ Hp.out HG.out); rw [Hv.out] at hc; refine hc.mono ?_; clear hc; rintro e w' ⟨rfl, n, rfl⟩) | (go_at_call 61; have hc := (l01Is_int G c p _ (Quiet.grd ⟨n, rfl⟩ Hp.out) HG.out); rw [Hi.out] at hc; refine hc.mono ?_; clear hc; rintro e w' ⟨rfl, rfl⟩))
      go_ret
      exact ⟨ret_i64 R.out.symm, _, rfl⟩
    · have R := Lib.hid (show askedN G c = 0 by simp [askedN, hv, hi])
      have Hv := Lib.hid hv
      have Hi := Lib.hid hi
      clear hv hi
      go_enter Tryd.func51, Tryd.ntmps51
      go_wp2_with (first | (go_at_call 55; have hc := (l01Ok_any G p _ Hp.out HG.out); rw [Hv.out] at hc; refine hc.mono ?_; clear hc; rintro e w' ⟨rfl, n, rfl⟩) | (go_at_call 61; have hc := (l01Is_int G c p _ (Quiet.grd ⟨n, rfl⟩ Hp.out) HG.out); rw [Hi.out] at hc; refine hc.mono ?_; clear hc; rintro e w' ⟨rfl, rfl⟩))
      go_ret
      exact ⟨ret_i64 R.out.symm, _, rfl⟩

/-- A side. -/
def sideB (s : Int) : Bool := decide (0 ≤ s) && decide (s ≤ 3)
/-- The code of a ground, a cell and a side. -/
def sidedN (G : Gd) (c s : Int) : Int := if askedN G c = 0 then (if sideB s = true then 0 else 2) else askedN G c

theorem l00In_any (n lo hi : Int) (w : World) : Calls Tryd.prog 79 #[.int .i64 n, .int .i64 lo, .int .i64 hi] w fun e w' => e = .returned (.bool (decide (lo ≤ n) && decide (n ≤ hi))) ∧ w = w' := by
  go_enter Tryd.func79, Tryd.ntmps79
  by_cases h : lo ≤ n
  · go_wp2
    go_ret
    exact ⟨ret_bool (by simp [h]), rfl⟩
  · have h1 : decide (lo ≤ n) = false := by simpa using h
    go_wp2
    go_ret
    exact ⟨ret_bool (by simp [h]), rfl⟩

theorem askedN_012 (G : Gd) (c : Int) : askedN G c = 0 ∨ askedN G c = 1 ∨ askedN G c = 2 := by
  unfold askedN
  split
  · split
    · exact .inl rfl
    · exact .inr (.inr rfl)
  · exact .inr (.inl rfl)

set_option maxRecDepth 100000 in
theorem l01Sided_any (G : Gd) (c s : Int) (p : Nat) (w : World) (hp : GrdAt w p 0 G) (hG : GdOk G) :
    Calls Tryd.prog 43 #[.pointer (some ⟨p, 0, none⟩), .int .i64 c, .int .i64 s] w fun e w' => e = .returned (.int .i64 (sidedN G c s)) ∧ Quiet w w' := by
  have Hp := Lib.hid hp
  have HG := Lib.hid hG
  clear hp hG
  by_cases ha : askedN G c = 0
  · cases hs : sideB s
    · have R := Lib.hid (show sidedN G c s = 2 by simp [sidedN, ha, hs])
      have Ha := Lib.hid ha
      have Hs := Lib.hid hs
      clear ha hs
      go_enter Tryd.func43, Tryd.ntmps43
      go_wp2_with (first | (go_at_call 51; have hc := (l01Asked_any G c p _ Hp.out HG.out); rw [Ha.out] at hc; refine hc.mono ?_; clear hc; rintro e w' ⟨rfl, n, rfl⟩) | (go_at_call 79; have hc := (l00In_any s 0 3 (World.drewN w n)); rw [show (decide (0 ≤ s) && decide (s ≤ 3)) = false from Hs.out] at hc; refine hc.mono ?_; clear hc; rintro e w' ⟨rfl, rfl⟩))
      go_ret
      exact ⟨ret_i64 R.out.symm, _, rfl⟩
    · have R := Lib.hid (show sidedN G c s = 0 by simp [sidedN, ha, hs])
      have Ha := Lib.hid ha
      have Hs := Lib.hid hs
      clear ha hs
      go_enter Tryd.func43, Tryd.ntmps43
      go_wp2_with (first | (go_at_call 51; have hc := (l01Asked_any G c p _ Hp.out HG.out); rw [Ha.out] at hc; refine hc.mono ?_; clear hc; rintro e w' ⟨rfl, n, rfl⟩) | (go_at_call 79; have hc := (l00In_any s 0 3 (World.drewN w n)); rw [show (decide (0 ≤ s) && decide (s ≤ 3)) = true from Hs.out] at hc; refine hc.mono ?_; clear hc; rintro e w' ⟨rfl, rfl⟩))
      go_ret
      exact ⟨ret_i64 R.out.symm, _, rfl⟩
  · have R := Lib.hid (show sidedN G c s = askedN G c by simp [sidedN, ha])
    have hne : (askedN G c == 0) = false := by simpa using ha
    go_enter Tryd.func43, Tryd.ntmps43
    go_wp2_with (go_at_call 51; refine (l01Asked_any G c p _ Hp.out HG.out).mono ?_; rintro e w' ⟨rfl, n, rfl⟩)
    go_ret
    exact ⟨ret_i64 R.out.symm, _, rfl⟩

/-- A ground that has been made, and its code. -/
def madeG (G : Gd) : Gd := if validB G = true then G else zG
def madeN (G : Gd) : Int := if validB G = true then 0 else 4
end Go.Proofs.YtcfkkceidlpdkaaDoor
