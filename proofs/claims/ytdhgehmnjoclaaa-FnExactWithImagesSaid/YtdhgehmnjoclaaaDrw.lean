/- The argument of a well and its drawdown: the program's and the model's. Condition: what comes in is valid. -/
import Derived.Test.YtdhgehmnjoclaaaStr
namespace Go.Proofs.Ytdhgehmnjoclaaa
open Go Go.RowKit Ieee
set_option linter.unusedSimpArgs false
set_option linter.unusedVariables false
attribute [local go_sem] run_store_f32


end Go.Proofs.Ytdhgehmnjoclaaa
