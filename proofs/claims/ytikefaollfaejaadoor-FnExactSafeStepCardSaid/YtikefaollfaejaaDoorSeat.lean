/- What holds of this seat's whole program, once for all its laws: it may enter its functions, what is lifted is final, its main package. No condition. -/
import Derived.Test.YtikefaollfaejaaDoorBase
import Derived.Test.YtikefaollfaejaaDoorCards
import Derived.Test.YtikefaollfaejaaDoorTie
import Derived.SevenTiedAt
namespace Go.Proofs.YtikefaollfaejaaDoor
open Go Go.ChangeShapes Go.WideShapes Go.ChangeAt Go.RowKit
set_option maxRecDepth 100000
theorem seat_me : Tryd.prog.mayEnter = true := by kernel_rfl
theorem seat_lf : (Rows.fnExactSafeStepRow.lifted == Tryd.prog.liftsFinal) = true := by kernel_rfl
theorem seat_mk : (Tryd.prog.make == some Rows.fnExactSafeStepRow.make) = true := by kernel_rfl
theorem seat_mi : Tryd.pinned.checked.prog.mainIs = some (Rows.fnExactSafeStepCard.stood.harness.fst, Rows.fnExactSafeStepCard.stood.harness.snd.toList) := by kernel_rfl
end Go.Proofs.YtikefaollfaejaaDoor
