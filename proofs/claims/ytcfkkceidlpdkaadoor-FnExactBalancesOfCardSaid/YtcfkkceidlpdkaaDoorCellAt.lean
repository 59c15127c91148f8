/- CellAt, BesideCell, CellsOf: the model's and the program's. Condition (the program's): the table of math/bits is laid. -/
import Derived.Test.YtcfkkceidlpdkaaDoorChkI
namespace Go.Proofs.YtcfkkceidlpdkaaDoor
open Go.RowKit
set_option linter.unusedSimpArgs false

/-- Two numbers, as a result. -/
def II (a b : Int) : Value := .tuple #[.int .i64 a, .int .i64 b]
theorem ret_II {a b c d : Int} (h1 : a = c) (h2 : b = d) : Ending.returned (.tuple #[.int .i64 a, .int .i64 b]) = .returned (II c d) := by rw [h1, h2]; rfl

def cellAtN (G : Gd) (x y : Int) : Int × Int := if validB G = true then (if holdB G x y = true then (x + 8 * y, 0) else (0, 2)) else (0, 1)
end Go.Proofs.YtcfkkceidlpdkaaDoor
