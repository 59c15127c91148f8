/- SettleGround: the program's and the model's. (The program's: the table of math/bits is laid.) No condition. -/
import Derived.Test.YtinepldaodadiaaDoorSwB
namespace Go.Proofs.YtinepldaodadiaaDoor
open Go.RowKit Go.Shelf
attribute [local go_sem] Oper.semAt_some run_store_float
set_option linter.unusedSimpArgs false
set_option linter.unusedVariables false

theorem results_gii {P : Program} {fn : Func} {p q r : Tmp} {ty : TypeId} {D : TypeDesc} (h : fn.results = #[.cell p ty, .tmp q, .tmp r]) (tmps : Array Value) (w : World) (b : Nat) (G : Gd) (m n : Int)
    (hp : tmps.getD p undef = .pointer (some ⟨b, 0, none⟩)) (hq : tmps.getD q undef = .int .i64 m) (hr : tmps.getD r undef = .int .i64 n) (hc : w.rangeAt b 0 (GrdL G))
    (hu : P.underlying ty = some D) (hd : D.isRow = true) (hi : (P.info? ty).map (·.size) = some 195) :
    (results fn tmps).run P w = .ok (.tuple #[.agg (Grd G), .int .i64 m, .int .i64 n]) w := by
  have hp' : tmps[p]?.getD undef = .pointer (some ⟨b, 0, none⟩) := by simpa using hp
  have hq' : tmps[q]?.getD undef = .int .i64 m := by simpa using hq
  have hr' : tmps[r]?.getD undef = .int .i64 n := by simpa using hr
  have := run_loadVar_mid (P := P) w b 0 ty (GrdL G) D hc hu hd (by rw [GrdL_length]; exact hi)
  simp [results, h, hp', hq', hr', asAddr, this, Grd]
/-- Sweeps until heads are still: so many more at most, the next one being number t. -/
def settR (x : Nat) : Nat → Int → Gd → Gd × Int × Int
  | 0, _, _ => (zG, 0, 7)
  | n + 1, t, G => if (swF headO G).2.1 = true then (if leX (swF headO G).2.2 x = true then ((swF headO G).1, t, 0) else settR x n (t + 1) (swF headO G).1) else (zG, 0, 4)
def budB (y : Int) : Bool := decide (0 ≤ y) && decide (y ≤ 2000)
def tripV (r : Gd × Int × Int) : Value := .tuple #[.agg (Grd r.1), .int .i64 r.2.1, .int .i64 r.2.2]
def setR (G : Gd) (x : Nat) (y : Int) : Gd × Int × Int := if validB G = true then (if (amtB x && budB y) = true then settR x y.toNat 1 G else (zG, 0, 2)) else (zG, 0, 1)
def setV (G : Gd) (x : Nat) (y : Int) : Value := tripV (setR G x y)
theorem setV_is (G : Gd) (x : Nat) (y : Int) : ∃ (A : Gd) (m : Int) (n : Int), setV G x y = .tuple #[.agg (Grd A), .int .i64 m, .int .i64 n] := ⟨_, _, _, rfl⟩
theorem settR_no {x n : Nat} {t : Int} {G : Gd} (h : (swF headO G).2.1 = false) : settR x (n + 1) t G = (zG, 0, 4) := by simp [settR, h]
theorem settR_end {x n : Nat} {t : Int} {G : Gd} (h : (swF headO G).2.1 = true) (hl : leX (swF headO G).2.2 x = true) : settR x (n + 1) t G = ((swF headO G).1, t, 0) := by simp [settR, h, hl]
theorem settR_on {x n : Nat} {t : Int} {G : Gd} (h : (swF headO G).2.1 = true) (hl : leX (swF headO G).2.2 x = false) : settR x (n + 1) t G = settR x n (t + 1) (swF headO G).1 := by simp [settR, h, hl]
/-- Two numbers, none of them a NaN: one is greater, or at most the other one. -/
theorem gt_le {m x : Nat} (hm : nanK .f32 m = false) (hx : plainB x = true) : (FloatKind.f32.format.order m x == some Ordering.gt) = !leX m x := by
  have hx2 : nanK .f32 x = false := by
    cases h : nanK .f32 x
    · rfl
    · rw [plain_nan h] at hx; cases hx
  obtain ⟨o, ho⟩ : ∃ o, FloatKind.f32.format.order m x = some o := by
    rw [nanK_read] at hm hx2
    unfold Ieee.Format.order
    cases h1 : FloatKind.f32.format.read m <;> cases h2 : FloatKind.f32.format.read x <;> simp_all [Ieee.Datum.isNaN, Ieee.Datum.order]
  unfold leX
  rw [ho]
  cases o <;> rfl
theorem lee_plain {x : Nat} (h : amtB x = true) : plainB x = true := by
  simp only [amtB, Bool.and_eq_true] at h
  exact h.1

end Go.Proofs.YtinepldaodadiaaDoor
