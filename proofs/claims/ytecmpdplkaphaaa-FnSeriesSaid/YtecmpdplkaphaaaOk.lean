/- Which wells are valid, and what is asked of an aquifer, a well, a place and a time: the program's and the model's. No condition. -/
import Derived.Test.YtecmpdplkaphaaaAq
namespace Go.Proofs.Ytecmpdplkaphaaa
open Go Go.RowKit Ieee
set_option linter.unusedSimpArgs false
set_option linter.unusedVariables false

def pnB (b : Nat) : Bool := geB b 3380609024 && leBB b 1233125376
def weB (X Y : Int) (R : Nat) : Bool := plB X && plB Y && pnB R

end Go.Proofs.Ytecmpdplkaphaaa
