/- CellsOf, WithFixed: the model's and the program's. Condition (the program's): the table of math/bits is laid. -/
import Derived.Test.YtcfkkceidlpdkaaDoorWith
namespace Go.Proofs.YtcfkkceidlpdkaaDoor
open Go.RowKit
set_option linter.unusedSimpArgs false

/-- Bits and a number, as a result. -/
def UI (a b : Int) : Value := .tuple #[.int .u64 a, .int .i64 b]
theorem ret_UI {a b c d : Int} (h1 : a = c) (h2 : b = d) : Ending.returned (.tuple #[.int .u64 a, .int .i64 b]) = .returned (UI c d) := by rw [h1, h2]; rfl

def cellsOfN (G : Gd) : Int × Int := if validB G = true then ((cellsN G : Int), 0) else (0, 1)

/-- The program's cells, of a valid ground. -/
theorem cells_valid (G : Gd) (hv : validB G = true) (p : Nat) (w : World) (hp : GrdAt w p 0 G) :
    Calls Tryd.prog 59 #[.pointer (some ⟨p, 0, none⟩)] w fun e w' => e = .returned (.int .u64 (cellsN G)) ∧ w = w' := by
  obtain ⟨v1, v2, v3, v4⟩ := valid_ext hv
  exact cells_any G G.wide.toNat G.high.toNat (by omega) (by omega) (by omega) (by omega) p w hp

end Go.Proofs.YtcfkkceidlpdkaaDoor
