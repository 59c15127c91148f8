/- A sweep: the head of a cell is set; one that is not plain makes it panic. No condition. -/
import Derived.Test.YtikefaollfaejaaDoorRdA
import Derived.Test.YtikefaollfaejaaDoorFlows
namespace Go.Proofs.YtikefaollfaejaaDoor
open Go Go.RowKit
attribute [local go_sem] Oper.semAt_some run_store_float
set_option linter.unusedSimpArgs false
set_option linter.unusedVariables false

end Go.Proofs.YtikefaollfaejaaDoor
