/- The model's l01Made and the program's ifValid: a ground with a code. Condition (ifValid): the table of math/bits is laid. -/
import Derived.Test.YtcfkkceidlpdkaaDoorChkS
namespace Go.Proofs.YtcfkkceidlpdkaaDoor
open Go.RowKit
set_option linter.unusedSimpArgs false

/-- The box of a ground that came in by value. -/
theorem box_in (G : Gd) (t : TypeId) (w : World) (hT : TabAt w) : ∃ W, w.alloc (.cells (Grd G) t) = W ∧ W.heap.size = w.heap.size + 1 ∧ GBox W w.heap.size G ∧ Below w.heap.size w W ∧ TabAt W := by
  obtain ⟨W, h, hs, g, hB⟩ := gbox1 G t w
  exact ⟨W, h, hs, g, hB, hT.below hB (tab_lt hT)⟩

/-- A ground and a number, as a result. -/
def GN (G : Gd) (n : Int) : Value := .tuple #[.agg (Grd G), .int .i64 n]

theorem infoG195 : (Tryd.prog.info? 32).map (·.size) = some 195 := infoGround

/-- The end of a function that returns a ground in a block and a number. -/
theorem ret_GN {fn : Func} {p q : Tmp} (h : fn.results = #[.cell p 32, .tmp q]) {tmps : Array Value} {w : World} {b : Nat} {G : Gd} {n : Int}
    (hp : tmps.getD p undef = .pointer (some ⟨b, 0, none⟩)) (hq : tmps.getD q undef = .int .i64 n) (hc : w.rangeAt b 0 (GrdL G)) : (results fn tmps).run Tryd.prog w = .ok (GN G n) w :=
  results_grd_int h tmps w b G n hp hq hc Tryd.underlying32 rfl infoG195

end Go.Proofs.YtcfkkceidlpdkaaDoor
