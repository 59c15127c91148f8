/- What is asked of an aquifer, one well, a place and times: the program's and the model's. No condition. -/
import Derived.Test.YtbiknpfcemfoeaaDoorOk
namespace Go.Proofs.YtbiknpfcemfoeaaDoor
open Go Go.RowKit Ieee
set_option linter.unusedSimpArgs false
set_option linter.unusedVariables false
attribute [local go_sem] run_store_f32

/-- The code of what is asked. -/
def askV (T S : Nat) (X Y : Int) (R : Nat) (x y : Int) (ts : List Int) : Int := if (aqB T S && weB X Y R) = true then (if (plB x && plB y && ts.all tmB) = true then 0 else 2) else 1

theorem below_a (cs : Array Value) (t : TypeId) (w : World) : Below w.heap.size w (w.alloc (.cells cs t)) := (Below.refl _ _).alloc (Nat.le_refl _) _

theorem rangeAt_below {n : Nat} {w V : World} {b o : Nat} {cs : List Value} (hV : Below n w V) (hb : b < n) (h : w.rangeAt b o cs) : V.rangeAt b o cs := fun i v hi => (hV.cell (p := ⟨b, o + i, none⟩) hb).trans (h i v hi)

end Go.Proofs.YtbiknpfcemfoeaaDoor
