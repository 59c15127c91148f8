/- ValidBrine: the model's; both sides. Conditions: none (the program's: the table of math/bits is laid). -/
import Derived.Test.YtnochmlhimddpaaDoorBriI
namespace Go.Proofs.YtnochmlhimddpaaDoor
open Go.RowKit Go.Shelf
attribute [local go_sem] Oper.semAt_some run_store_float
set_option linter.unusedSimpArgs false
set_option linter.unusedVariables false

end Go.Proofs.YtnochmlhimddpaaDoor
