/- The sum of a field over all cells: the model's. No condition. -/
import Derived.Test.YtcfkkceidlpdkaaDoorCalmF
import Derived.Test.YtcfkkceidlpdkaaDoorChkS
namespace Go.Proofs.YtcfkkceidlpdkaaDoor
open Go.RowKit
set_option linter.unusedSimpArgs false

/-- The sum over the first cells, up to which NaN it is: from the number at 0 on. -/
def sumTo (G : Gd) (f : Nat → Nat) : Nat → Option Nat
  | 0 => num .f32 (f 0)
  | k + 1 => if isB G (k + 1) = true then fop .f32 .add (sumTo G f k) (num .f32 (f (k + 1))) else sumTo G f k

theorem num_some_num {o : Option Nat} {r : Nat} (h : num .f32 r = o) : num .f32 r = o := h

/-- A number that is told, up to which NaN it is; nothing is written. -/
def GivesN (o : Option Nat) (w : World) (e : Ending) (w' : World) : Prop := ∃ r, e = .returned (.float .f32 r) ∧ num .f32 r = o ∧ Quiet w w'

end Go.Proofs.YtcfkkceidlpdkaaDoor
