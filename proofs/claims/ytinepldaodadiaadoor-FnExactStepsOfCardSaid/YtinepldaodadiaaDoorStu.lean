/- Steps until heads are still: what they reckon, and the model's. No condition. -/
import Derived.Test.YtinepldaodadiaaDoorStp
import Derived.Test.YtinepldaodadiaaDoorSettle
namespace Go.Proofs.YtinepldaodadiaaDoor
open Go Go.RowKit Go.Shelf
attribute [local go_sem] Oper.semAt_some run_store_float
set_option linter.unusedSimpArgs false
set_option linter.unusedVariables false

/-- Are the sizes of all balances of cells that are not fixed at most x? -/
def lullB (G : Gd) (x : Nat) : Bool := (List.range 64).all fun i => !frB G i || leX (absN (balF G i)) x
theorem lull_yes {G : Gd} {x : Nat} (h : ∀ i, i < 64 → frB G i = true → leX (absN (balF G i)) x = true) : lullB G x = true := all_yes fun i hi => by
  cases hf : frB G i
  · rfl
  · rw [h i hi hf]; rfl
theorem lull_no {G : Gd} {x i : Nat} (hi : i < 64) (hf : frB G i = true) (h : leX (absN (balF G i)) x = false) : lullB G x = false := all_no i hi (by rw [hf, h]; rfl)
theorem bal_size {G : Gd} (ha : allFin G = true) {k : Nat} (hk : k < 64) (hi : isB G k = true) {r : Nat} (hr : num .f32 r = sizeO (num .f32 (balF G k))) : r = absN (balF G k) ∧ nanK .f32 r = false := by
  have h1 := balF_fin ha hk hi
  unfold allFin at ha
  have := List.all_eq_true.1 ha k (by simpa using hk)
  simp only [hi, Bool.not_true, Bool.false_or] at this
  rw [← h1] at this
  cases hn : nanK .f32 (balF G k)
  · have h2 : num .f32 (balF G k) = some (balF G k) := by simp [num, hn]
    rw [h2] at hr
    exact num_eq_some hr
  · simp [num, hn, finO] at this
/-- Is a ground still, and are its balances finite? -/
def stl (G : Gd) (x : Nat) : Bool × Bool := if allFin G = true then (lullB G x, true) else (false, false)
/-- Steps until a ground is still: at most m more, n having been made. -/
def stuR (x p : Nat) : Nat → Int → Gd → Gd × Int × Int
  | 0, n, G => if allFin G = false then (zG, 0, 4) else if lullB G x = true then (G, n, 0) else (zG, 0, 7)
  | m + 1, n, G => if allFin G = false then (zG, 0, 4) else if lullB G x = true then (G, n, 0) else if (stpR G p).2 = 0 then stuR x p m (n + 1) (stpR G p).1 else (zG, 0, (stpR G p).2)
theorem stuR_nf {x p : Nat} {n : Int} {G : Gd} (h : allFin G = false) : ∀ m, stuR x p m n G = (zG, 0, 4)
  | 0 => by simp [stuR, h]
  | m + 1 => by simp [stuR, h]
theorem stuR_calm {x p : Nat} {n : Int} {G : Gd} (h : allFin G = true) (hc : lullB G x = true) : ∀ m, stuR x p m n G = (G, n, 0)
  | 0 => by simp [stuR, h, hc]
  | m + 1 => by simp [stuR, h, hc]
theorem stuR_end {x p : Nat} {n : Int} {G : Gd} (h : allFin G = true) (hc : lullB G x = false) : stuR x p 0 n G = (zG, 0, 7) := by simp [stuR, h, hc]
theorem stuR_no {x p m : Nat} {n : Int} {G : Gd} (h : allFin G = true) (hc : lullB G x = false) (hs : (stpR G p).2 ≠ 0) : stuR x p (m + 1) n G = (zG, 0, (stpR G p).2) := by simp [stuR, h, hc, hs]
theorem stuR_on {x p m : Nat} {n : Int} {G : Gd} (h : allFin G = true) (hc : lullB G x = false) (hs : (stpR G p).2 = 0) : stuR x p (m + 1) n G = stuR x p m (n + 1) (stpR G p).1 := by simp [stuR, h, hc, hs]
def hoursB (y : Int) : Bool := decide (0 ≤ y) && decide (y ≤ 400)
def stuV (G : Gd) (p x : Nat) (y : Int) : Gd × Int × Int := if (validB G && plainB p && plainB x) = true then (if hoursB y = true then stuR x p y.toNat 0 G else (zG, 0, 2)) else (zG, 0, 1)
theorem l06Steps_is (y : Int) (r : Bool) (h : hoursB y = r) (w : World) : Calls Tryd.prog 9 #[.int .i64 y] w fun e w' => e = .returned (.bool r) ∧ w = w' := by
  go_enter Tryd.func9, Tryd.ntmps9
  go_wp2_with (go_at_call 18; refine (l00InG_is y 0 400 r h _).mono ?_; rintro e w' ⟨rfl, rfl⟩)
  go_ret
  exact ⟨rfl, rfl⟩
def tripU (R : Gd × Int × Int) : Value := .tuple #[.agg (Grd R.1), .int .i64 R.2.1, .int .i64 R.2.2]
theorem stl_nf {G : Gd} {x : Nat} (h : allFin G = false) : stl G x = (false, false) := by simp [stl, h]
theorem stl_yes {G : Gd} {x : Nat} (h : allFin G = true) (hc : lullB G x = true) : stl G x = (true, true) := by simp [stl, h, hc]
theorem stl_no {G : Gd} {x : Nat} (h : allFin G = true) (hc : lullB G x = false) : stl G x = (false, true) := by simp [stl, h, hc]
theorem stpR_code4 {G : Gd} {p : Nat} (h : (stpR G p).2 ≠ 0) : stpR G p = (zG, 4) := stpR_code.resolve_left h

end Go.Proofs.YtinepldaodadiaaDoor
