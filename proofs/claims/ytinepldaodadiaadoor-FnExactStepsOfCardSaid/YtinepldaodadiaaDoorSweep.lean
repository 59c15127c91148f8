/- A sweep: the head of a cell is set; one that is not plain makes it panic. No condition. -/
import Derived.Test.YtinepldaodadiaaDoorRdA
import Derived.Test.YtinepldaodadiaaDoorFlows
namespace Go.Proofs.YtinepldaodadiaaDoor
open Go Go.RowKit
attribute [local go_sem] Oper.semAt_some run_store_float
set_option linter.unusedSimpArgs false
set_option linter.unusedVariables false

end Go.Proofs.YtinepldaodadiaaDoor
