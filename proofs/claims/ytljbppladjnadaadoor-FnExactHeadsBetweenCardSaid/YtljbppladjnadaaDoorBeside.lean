/- Neighbours: the model's l01Beside, the program's beside; BesideCell. Condition (the program's): the table of math/bits is laid. -/
import Derived.Test.YtljbppladjnadaaDoorCellAt
import Derived.Test.YtljbppladjnadaaDoorWith
namespace Go.Proofs.YtljbppladjnadaaDoor
open Go.RowKit
set_option linter.unusedSimpArgs false

/-- The place on a side of a cell's. -/
def nx (k : Nat) (s : Int) : Int := ((k % 8 : Nat) : Int) + (if s = 1 then 1 else if s = 3 then -1 else 0)
def ny (k : Nat) (s : Int) : Int := ((k / 8 : Nat) : Int) + (if s = 0 then -1 else if s = 2 then 1 else 0)
/-- There is a neighbour; its number. -/
def nbB (G : Gd) (k : Nat) (s : Int) : Bool := holdB G (nx k s) (ny k s)
def nb (k : Nat) (s : Int) : Int := nx k s + 8 * ny k s

theorem side_cases {s : Int} (h : sideB s = true) : s = 0 ∨ s = 1 ∨ s = 2 ∨ s = 3 := by
  simp only [sideB, Bool.and_eq_true, decide_eq_true_eq] at h
  omega

/-- What l01Beside says. -/
def besideN (G : Gd) (k : Nat) (s : Int) : Int := if nbB G k s = true then nb k s else -1

set_option maxRecDepth 100000 in
set_option maxHeartbeats 1000000 in
theorem l01Beside_any (G : Gd) (k : Nat) (hk : k < 64) (s : Int) (hs : sideB s = true) (p : Nat) (w : World) (hp : GrdAt w p 0 G) (hG : GdOk G) :
    Calls Tryd.prog 53 #[.pointer (some ⟨p, 0, none⟩), .int .i64 k, .int .i64 s] w fun e w' => e = .returned (.int .i64 (besideN G k s)) ∧ w = w' := by
  have a0 := hp.wide; have a1 := hp.high
  rw [Nat.zero_add] at a1
  obtain ⟨k0, k0'⟩ := hG.wide'
  obtain ⟨k1, k1'⟩ := hG.high'
  clear hp hG
  rcases side_cases hs with rfl | rfl | rfl | rfl
  all_goals
    clear hs
    go_enter Tryd.func53, Tryd.ntmps53
    go_wp2_with (go_at_call 49; refine (l00In_any _ _ _ _).mono ?_; rintro e w' ⟨rfl, rfl⟩)
    all_goals
      go_ret
      refine ⟨ret_i64 ?_, rfl⟩
      try simp only [Bool.not_eq_true', Bool.not_eq_false', decide_eq_false_iff_not, decide_eq_true_eq] at *
      simp only [besideN, nbB, holdB, nb, nx, ny, Bool.and_eq_true, decide_eq_true_eq]
      simp
      first | (intros; omega) | (split <;> omega)

def besideCellN (G : Gd) (c s : Int) : Int × Int := if sidedN G c s = 0 then (if nbB G c.toNat s = true then (nb c.toNat s, 0) else (0, 6)) else (0, sidedN G c s)
theorem sided_in {G : Gd} {c s : Int} (h : sidedN G c s = 0) : ∃ k : Nat, c = k ∧ k < 64 ∧ validB G = true ∧ isB G k = true ∧ sideB s = true := by
  unfold sidedN at h
  split at h
  · rename_i ha
    split at h
    · rename_i hs
      obtain ⟨k, h1, h2, h3, h4⟩ := asked_in ha
      exact ⟨k, h1, h2, h3, h4, hs⟩
    · cases h
  · rename_i ha
    exact absurd h ha
theorem nb_range {G : Gd} {k : Nat} {s : Int} (hv : validB G = true) (h : nbB G k s = true) : 0 ≤ nb k s ∧ nb k s ≤ 63 ∧ 0 ≤ nx k s ∧ nx k s ≤ 7 ∧ 0 ≤ ny k s ∧ ny k s ≤ 7 := by
  obtain ⟨v1, v2, v3, v4⟩ := valid_ext hv
  simp only [nbB, holdB, Bool.and_eq_true, decide_eq_true_eq] at h
  obtain ⟨h1, h2, h3, h4⟩ := h
  unfold nb
  omega

set_option maxRecDepth 100000 in
set_option maxHeartbeats 1000000 in
theorem specBesideCell_any (G : Gd) (c s : Int) (w : World) (hG : GdOk G) :
    Calls Tryd.prog 20 #[.agg (Grd G), .int .i64 c, .int .i64 s] w fun e w' => e = .returned (II (besideCellN G c s).1 (besideCellN G c s).2) ∧ Below w.heap.size w w' := by
  go_enter Tryd.func20, Tryd.ntmps20
  go_upto_region 1 with (fail)
  obtain ⟨W, hW, hs, g1, hB⟩ := gbox1 G 31 w
  rw [hW]
  clear hW
  have G1 := Lib.hid g1
  have HB := Lib.hid hB
  have HG := Lib.hid hG
  clear g1 hB hs hG
  by_cases ha : sidedN G c s = 0
  · obtain ⟨k, rfl, hk, hv, _, hs⟩ := sided_in ha
    have Ha := Lib.hid ha
    cases hn : nbB G k s
    · have R := Lib.hid (show besideCellN G k s = (0, 6) by simp [besideCellN, ha, hn])
      have N1 := Lib.hid (show besideN G k s = -1 by simp [besideN, hn])
      clear ha hn
      go_wp2_with (first | (go_at_call 52; have hc := (l01Sided_any G k s _ _ G1.out.at' HG.out); rw [Ha.out] at hc; refine hc.mono ?_; clear hc; rintro e w' ⟨rfl, n, rfl⟩) | (go_at_call 53; have hc := (l01Beside_any G k hk s hs _ _ (Quiet.grd ⟨n, rfl⟩ G1.out.at') HG.out); rw [N1.out] at hc; refine hc.mono ?_; clear hc; rintro e w' ⟨rfl, rfl⟩))
      go_ret2
      exact ⟨ret_II (by rw [R.out]) (by rw [R.out]), HB.out.trans (Quiet.below ⟨n, rfl⟩ _)⟩
    · have R := Lib.hid (show besideCellN G k s = (nb k s, 0) by simp [besideCellN, ha, hn])
      have N1 := Lib.hid (show besideN G k s = nb k s by simp [besideN, hn])
      obtain ⟨r1, r2, _⟩ := nb_range hv hn
      clear ha hn
      go_wp2_with (first | (go_at_call 52; have hc := (l01Sided_any G k s _ _ G1.out.at' HG.out); rw [Ha.out] at hc; refine hc.mono ?_; clear hc; rintro e w' ⟨rfl, n, rfl⟩) | (go_at_call 53; have hc := (l01Beside_any G k hk s hs _ _ (Quiet.grd ⟨n, rfl⟩ G1.out.at') HG.out); rw [N1.out] at hc; refine hc.mono ?_; clear hc; rintro e w' ⟨rfl, rfl⟩))
      go_ret2
      exact ⟨ret_II (by rw [R.out]) (by rw [R.out]), HB.out.trans (Quiet.below ⟨n, rfl⟩ _)⟩
  · have hne : (sidedN G c s != 0) = true := by simpa [bne] using ha
    have R := Lib.hid (show besideCellN G c s = (0, sidedN G c s) by simp only [besideCellN, ha, if_false])
    clear ha
    go_wp2_with (go_at_call 52; refine (l01Sided_any G c s _ _ G1.out.at' HG.out).mono ?_; rintro e w' ⟨rfl, n, rfl⟩)
    go_ret2
    exact ⟨ret_II (by rw [R.out]) (by rw [R.out]), HB.out.trans (Quiet.below ⟨n, rfl⟩ _)⟩

theorem north_any (x y : Int) (h1 : -1000 ≤ y) (h2 : y ≤ 1000) (w : World) : Calls Tryd.prog 77 #[Plc x y] w fun e w' => e = .returned (Plc x (y - 1)) ∧ Below w.heap.size w w' := by
  unfold Plc
  go_enter Tryd.func77, Tryd.ntmps77
  go_wp2
  refine bodyPost_ret (v := .agg #[.int .i64 x, .int .i64 (y - 1)]) (by simp [results, Tryd.results77, go_sem]) rfl ⟨rfl, ?_⟩
  exact ((Below.refl _ _).alloc (Nat.le_refl _) _).alloc (by simp) _
theorem south_any (x y : Int) (h1 : -1000 ≤ y) (h2 : y ≤ 1000) (w : World) : Calls Tryd.prog 79 #[Plc x y] w fun e w' => e = .returned (Plc x (y + 1)) ∧ Below w.heap.size w w' := by
  unfold Plc
  go_enter Tryd.func79, Tryd.ntmps79
  go_wp2
  refine bodyPost_ret (v := .agg #[.int .i64 x, .int .i64 (y + 1)]) (by simp [results, Tryd.results79, go_sem]) rfl ⟨rfl, ?_⟩
  exact ((Below.refl _ _).alloc (Nat.le_refl _) _).alloc (by simp) _
theorem east_any (x y : Int) (h1 : -1000 ≤ x) (h2 : x ≤ 1000) (w : World) : Calls Tryd.prog 78 #[Plc x y] w fun e w' => e = .returned (Plc (x + 1) y) ∧ Below w.heap.size w w' := by
  unfold Plc
  go_enter Tryd.func78, Tryd.ntmps78
  go_wp2
  refine bodyPost_ret (v := .agg #[.int .i64 (x + 1), .int .i64 y]) (by simp [results, Tryd.results78, go_sem]) rfl ⟨rfl, ?_⟩
  exact ((Below.refl _ _).alloc (Nat.le_refl _) _).alloc (by simp) _
theorem west_any (x y : Int) (h1 : -1000 ≤ x) (h2 : x ≤ 1000) (w : World) : Calls Tryd.prog 80 #[Plc x y] w fun e w' => e = .returned (Plc (x - 1) y) ∧ Below w.heap.size w w' := by
  unfold Plc
  go_enter Tryd.func80, Tryd.ntmps80
  go_wp2
  refine bodyPost_ret (v := .agg #[.int .i64 (x - 1), .int .i64 y]) (by simp [results, Tryd.results80, go_sem]) rfl ⟨rfl, ?_⟩
  exact ((Below.refl _ _).alloc (Nat.le_refl _) _).alloc (by simp) _
end Go.Proofs.YtljbppladjnadaaDoor
