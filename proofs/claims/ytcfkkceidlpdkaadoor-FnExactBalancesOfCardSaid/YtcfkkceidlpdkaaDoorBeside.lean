/- Neighbours: the model's l01Beside, the program's beside; BesideCell. Condition (the program's): the table of math/bits is laid. -/
import Derived.Test.YtcfkkceidlpdkaaDoorCellAt
import Derived.Test.YtcfkkceidlpdkaaDoorWith
namespace Go.Proofs.YtcfkkceidlpdkaaDoor
open Go.RowKit
set_option linter.unusedSimpArgs false

/-- The place on a side of a cell's. -/
def nx (k : Nat) (s : Int) : Int := ((k % 8 : Nat) : Int) + (if s = 1 then 1 else if s = 3 then -1 else 0)
def ny (k : Nat) (s : Int) : Int := ((k / 8 : Nat) : Int) + (if s = 0 then -1 else if s = 2 then 1 else 0)
/-- There is a neighbour; its number. -/
def nbB (G : Gd) (k : Nat) (s : Int) : Bool := holdB G (nx k s) (ny k s)
def nb (k : Nat) (s : Int) : Int := nx k s + 8 * ny k s

theorem side_cases {s : Int} (h : sideB s = true) : s = 0 ∨ s = 1 ∨ s = 2 ∨ s = 3 := by
  simp only [sideB, Bool.and_eq_true, decide_eq_true_eq] at h
  omega

/-- What l01Beside says. -/
def besideN (G : Gd) (k : Nat) (s : Int) : Int := if nbB G k s = true then nb k s else -1

set_option maxRecDepth 100000 in
set_option maxHeartbeats 1000000 in
theorem l01Beside_any (G : Gd) (k : Nat) (hk : k < 64) (s : Int) (hs : sideB s = true) (p : Nat) (w : World) (hp : GrdAt w p 0 G) (hG : GdOk G) :
    Calls Tryd.prog 86 #[.pointer (some ⟨p, 0, none⟩), .int .i64 k, .int .i64 s] w fun e w' => e = .returned (.int .i64 (besideN G k s)) ∧ w = w' := by
  have a0 := hp.wide; have a1 := hp.high
  rw [Nat.zero_add] at a1
  obtain ⟨k0, k0'⟩ := hG.wide'
  obtain ⟨k1, k1'⟩ := hG.high'
  clear hp hG
  rcases side_cases hs with rfl | rfl | rfl | rfl
  all_goals
    clear hs
    go_enter Tryd.func86, Tryd.ntmps86
    go_wp2_with (go_at_call 79; refine (l00In_any _ _ _ _).mono ?_; rintro e w' ⟨rfl, rfl⟩)
    all_goals
      go_ret
      refine ⟨ret_i64 ?_, rfl⟩
      try simp only [Bool.not_eq_true', Bool.not_eq_false', decide_eq_false_iff_not, decide_eq_true_eq] at *
      simp only [besideN, nbB, holdB, nb, nx, ny, Bool.and_eq_true, decide_eq_true_eq]
      simp
      first | (intros; omega) | (split <;> omega)

def besideCellN (G : Gd) (c s : Int) : Int × Int := if sidedN G c s = 0 then (if nbB G c.toNat s = true then (nb c.toNat s, 0) else (0, 6)) else (0, sidedN G c s)
theorem sided_in {G : Gd} {c s : Int} (h : sidedN G c s = 0) : ∃ k : Nat, c = k ∧ k < 64 ∧ validB G = true ∧ isB G k = true ∧ sideB s = true := by
  unfold sidedN at h
  split at h
  · rename_i ha
    split at h
    · rename_i hs
      obtain ⟨k, h1, h2, h3, h4⟩ := asked_in ha
      exact ⟨k, h1, h2, h3, h4, hs⟩
    · cases h
  · rename_i ha
    exact absurd h ha
theorem nb_range {G : Gd} {k : Nat} {s : Int} (hv : validB G = true) (h : nbB G k s = true) : 0 ≤ nb k s ∧ nb k s ≤ 63 ∧ 0 ≤ nx k s ∧ nx k s ≤ 7 ∧ 0 ≤ ny k s ∧ ny k s ≤ 7 := by
  obtain ⟨v1, v2, v3, v4⟩ := valid_ext hv
  simp only [nbB, holdB, Bool.and_eq_true, decide_eq_true_eq] at h
  obtain ⟨h1, h2, h3, h4⟩ := h
  unfold nb
  omega

theorem north_any (x y : Int) (h1 : -1000 ≤ y) (h2 : y ≤ 1000) (w : World) : Calls Tryd.prog 101 #[Plc x y] w fun e w' => e = .returned (Plc x (y - 1)) ∧ Below w.heap.size w w' := by
  unfold Plc
  go_enter Tryd.func101, Tryd.ntmps101
  go_wp2
  refine bodyPost_ret (v := .agg #[.int .i64 x, .int .i64 (y - 1)]) (by simp [results, Tryd.results101, go_sem]) rfl ⟨rfl, ?_⟩
  exact ((Below.refl _ _).alloc (Nat.le_refl _) _).alloc (by simp) _
theorem south_any (x y : Int) (h1 : -1000 ≤ y) (h2 : y ≤ 1000) (w : World) : Calls Tryd.prog 103 #[Plc x y] w fun e w' => e = .returned (Plc x (y + 1)) ∧ Below w.heap.size w w' := by
  unfold Plc
  go_enter Tryd.func103, Tryd.ntmps103
  go_wp2
  refine bodyPost_ret (v := .agg #[.int .i64 x, .int .i64 (y + 1)]) (by simp [results, Tryd.results103, go_sem]) rfl ⟨rfl, ?_⟩
  exact ((Below.refl _ _).alloc (Nat.le_refl _) _).alloc (by simp) _
theorem east_any (x y : Int) (h1 : -1000 ≤ x) (h2 : x ≤ 1000) (w : World) : Calls Tryd.prog 102 #[Plc x y] w fun e w' => e = .returned (Plc (x + 1) y) ∧ Below w.heap.size w w' := by
  unfold Plc
  go_enter Tryd.func102, Tryd.ntmps102
  go_wp2
  refine bodyPost_ret (v := .agg #[.int .i64 (x + 1), .int .i64 y]) (by simp [results, Tryd.results102, go_sem]) rfl ⟨rfl, ?_⟩
  exact ((Below.refl _ _).alloc (Nat.le_refl _) _).alloc (by simp) _
theorem west_any (x y : Int) (h1 : -1000 ≤ x) (h2 : x ≤ 1000) (w : World) : Calls Tryd.prog 104 #[Plc x y] w fun e w' => e = .returned (Plc (x - 1) y) ∧ Below w.heap.size w w' := by
  unfold Plc
  go_enter Tryd.func104, Tryd.ntmps104
  go_wp2
  refine bodyPost_ret (v := .agg #[.int .i64 (x - 1), .int .i64 y]) (by simp [results, Tryd.results104, go_sem]) rfl ⟨rfl, ?_⟩
  exact ((Below.refl _ _).alloc (Nat.le_refl _) _).alloc (by simp) _
end Go.Proofs.YtcfkkceidlpdkaaDoor
