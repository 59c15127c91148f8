/- ValidBrine: the model's; both sides. Conditions: none (the program's: the table of math/bits is laid). -/
import Derived.Test.YtikefaollfaejaaDoorBriI
namespace Go.Proofs.YtikefaollfaejaaDoor
open Go.RowKit Go.Shelf
attribute [local go_sem] Oper.semAt_some run_store_float
set_option linter.unusedSimpArgs false
set_option linter.unusedVariables false

end Go.Proofs.YtikefaollfaejaaDoor
