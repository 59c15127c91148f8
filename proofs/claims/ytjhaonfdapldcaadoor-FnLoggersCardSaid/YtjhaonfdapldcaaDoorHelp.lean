/- Small laws on cells that lie on, numbers, and operations of which only a set is told. No condition. -/
import Derived.Test.YtjhaonfdapldcaaDoorBase
namespace Go.Proofs.YtjhaonfdapldcaaDoor
open Go.RowKit
set_option linter.unusedSimpArgs false

section
variable {P : Program} {ops : Array Oper} {S : World → Prop} {E : Act → Prop}
/-- A pure operation, of whose value only a set is told. -/
theorem calm_pureV {i : Nat} {V : Value → Prop} {r : List (Nat × (Value → Prop))} {a : Act} (d : Option Tmp) (v : Value) (hV : V v) (hi : decide (i < ops.size) = true) (hd : (opOf ops i).dst = d) (hw : Region.wanted (opOf ops i) (yielded ops a.tmps) = true) (hv : ∀ w, (execOp a.eval (opOf ops i)).run P w = .ok (.value v) w)
    (h : ∀ u, V u → CalmOk P ops S E r (a.put d u)) : CalmOk P ops S E ((i, V) :: r) a :=
  calm_step d hi hd ⟨v, hV⟩ (.inl ⟨hw, fun w hS => by rw [hv w]; exact ⟨hV, hS⟩⟩) h
end

theorem belowN {n : Nat} {W w' : World} (h : Below n W w') (k : Nat) : Below n W (w'.drewN k) := h.trans (Quiet.below ⟨k, rfl⟩ n)
/-- A cell that lies lies on. -/
theorem kc {n b o : Nat} {W : World} {v : Value} (h : W.cell? ⟨b, o, none⟩ = some v) (hb : b < n) : ∀ w', Below n W w' → w'.cell? ⟨b, o, none⟩ = some v := fun _ hw => (hw.cell (p := ⟨b, o, none⟩) hb).trans h
theorem kq {b o : Nat} {W : World} {v : Value} (h : W.cell? ⟨b, o, none⟩ = some v) : ∀ w', Quiet W w' → w'.cell? ⟨b, o, none⟩ = some v := fun _ hw => (hw.cell _).trans h
theorem numv_ne {k : FloatKind} {o : Option Nat} (h : ∃ r, num k r = o) : ∃ v, Numv k o v := by
  obtain ⟨r, hr⟩ := h
  exact ⟨_, r, rfl, hr⟩
theorem fop_ex (k : FloatKind) (op : BinOp) (hop : arith op = true) (x y : Option Nat) (hx : ∃ r, num k r = x) (hy : ∃ r, num k r = y) : ∃ r, num k r = fop k op x y := by
  obtain ⟨a, rfl⟩ := hx
  obtain ⟨b, rfl⟩ := hy
  obtain ⟨r, n, h1, _⟩ := run_float_any Tryd.prog default op hop 0 k a b
  exact ⟨r, h1⟩
theorem num_ex (k : FloatKind) (b : Nat) : ∃ r, num k r = num k b := ⟨b, rfl⟩
theorem fop_eq {k : FloatKind} {op : BinOp} {x y : Nat} {o p : Option Nat} (hx : num k x = o) (hy : num k y = p) : fop k op (num k x) (num k y) = fop k op o p := by rw [hx, hy]
end Go.Proofs.YtjhaonfdapldcaaDoor
