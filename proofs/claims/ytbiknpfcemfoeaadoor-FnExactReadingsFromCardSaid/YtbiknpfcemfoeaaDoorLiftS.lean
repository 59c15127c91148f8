/- A lemma for laws whose arguments lie in memory: if the call returns true and leaves all memory that was there as it was, the row's step follows; and an argument that is a list of wells, opened. Condition: none of its own. -/
import Derived.Test.YtbiknpfcemfoeaaDoorLiftB
import Derived.Test.YtbiknpfcemfoeaaDoorLs
import Derived.Test.YtbiknpfcemfoeaaDoorWs
import Derived.Deep.Slices
import Derived.Deep.Fields
namespace Go.Proofs.YtbiknpfcemfoeaaDoor
open Go Go.ChangeShapes Go.WideShapes Go.ChangeAt Go.RowKit Go.Deep


section
variable {H : Type} {enc : TypeId × Value → H} {w : World} {base : Nat} {spare : Nat → Bool} {held : Bool}
/-- A well in memory, opened. -/
def okW (e : W3) : Prop := (Lit.int .i8 e.1).wf = true ∧ (Lit.int .i8 e.2.1).wf = true ∧ (Lit.float .f32 e.2.2).wf = true
set_option maxRecDepth 100000 in
theorem weFields : ∃ f0 f1 f2 : Field, Tryd.prog.underlying 37 = some (.struct #[f0, f1, f2]) ∧ oneCellFields Tryd.prog #[f0, f1, f2] = true ∧ f0.type = 35 ∧ f1.type = 35 ∧ f2.type = 24 := by
  have h := Tryd.underlying37
  refine ⟨_, _, _, h, ?_, ?_, ?_, ?_⟩
  all_goals kernel_rfl
set_option maxRecDepth 100000 in
theorem open_we {n : Nat} {cs : List Value} {y : DataW H × List MemPlace} (hl : cs.length = 3) (h : DataW.trod enc Tryd.prog w base spare held n 37 cs = some y) : ∃ e : W3, cs = w3 e ∧ okW e := by
  obtain ⟨f0, f1, f2, hu, hone, t0, t1, t2⟩ := weFields
  obtain ⟨xs, m, _, _, _, hxl, hf⟩ := DataW.trod_struct hu h
  match cs, hl, xs, hxl with
  | [c0, c1, c2], _, [y0, y1, y2], _ =>
    obtain ⟨o0, k0⟩ := hone_of hone 0 f0 rfl
    obtain ⟨o1, k1⟩ := hone_of hone 1 f1 rfl
    obtain ⟨o2, k2⟩ := hone_of hone 2 f2 rfl
    have g0 := hf 0 f0 rfl
    have g1 := hf 1 f1 rfl
    have g2 := hf 2 f2 rfl
    rw [o0, k0, t0] at g0
    rw [o1, k1, t1] at g1
    rw [o2, k2, t2] at g2
    obtain ⟨X, hX, _, wX⟩ := DataW.trod_int Tryd.underlying35 (show DataW.trod enc Tryd.prog w base spare held m 35 [c0] = some y0 from g0)
    obtain ⟨Y, hY, _, wY⟩ := DataW.trod_int Tryd.underlying35 (show DataW.trod enc Tryd.prog w base spare held m 35 [c1] = some y1 from g1)
    obtain ⟨R, hR, wR⟩ := trod_f32 Tryd.underlying24 (show DataW.trod enc Tryd.prog w base spare held m 24 [c2] = some y2 from g2)
    cases hX; cases hY; cases hR
    exact ⟨(X, Y, R), rfl, wX, wY, wR⟩
theorem cellsWe : Tryd.prog.cellsOf 37 = 3 := by kernel_rfl
end
end Go.Proofs.YtbiknpfcemfoeaaDoor
