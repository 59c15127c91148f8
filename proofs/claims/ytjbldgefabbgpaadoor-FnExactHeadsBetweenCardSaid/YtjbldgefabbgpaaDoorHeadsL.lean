/- HeadsBetween: the two numbers over the list of cells. No condition. -/
import Derived.Test.YtjbldgefabbgpaaDoorHeadsS
import Derived.Test.YtjbldgefabbgpaaDoorNums
namespace Go.Proofs.YtjbldgefabbgpaaDoor
open Go.RowKit
set_option linter.unusedSimpArgs false

def rgL (f : Nat → Nat) (l : List Nat) : Nat × Nat := l.foldl (rgS f) (f 0, f 0)
theorem rgL_snoc (f : Nat → Nat) (l : List Nat) (i : Nat) : rgL f (l ++ [i]) = rgS f (rgL f l) i := by simp [rgL]
theorem order_self (x : Nat) : lessB x x = false ∧ gtB x x = false := by
  unfold lessB gtB
  unfold Ieee.Format.order
  cases FloatKind.f32.format.read x with
  | number s m i => simp [Ieee.Datum.order]
  | infinity s => simp [Ieee.Datum.order]
  | nan => simp [Ieee.Datum.order]
theorem rgL_cells (G : Gd) : rgL G.h (cellL G) = rgTo G 63 := by
  have key : ∀ k, k ≤ 63 → rgL G.h ((List.range (k + 1)).filter (isB G)) = rgTo G k := by
    intro k
    induction k with
    | zero =>
      intro _
      cases h0 : isB G 0
      · simp [List.range_succ, h0, rgTo, rgL]
      · simp [List.range_succ, h0, rgTo, rgL, rgS, (order_self (G.h 0)).1, (order_self (G.h 0)).2]
    | succ k ih =>
      intro hk
      rw [List.range_succ, List.filter_append]
      cases hi : isB G (k + 1)
      · rw [List.filter_cons, if_neg (by simp [hi]), List.filter_nil, List.append_nil, ih (by omega)]
        simp [rgTo, hi]
      · rw [List.filter_cons, if_pos hi, List.filter_nil, rgL_snoc, ih (by omega)]
        simp [rgTo, hi]
  exact key 63 (by omega)
end Go.Proofs.YtjbldgefabbgpaaDoor
