/- What holds of this seat's whole program, once for all its laws: it may enter its functions, what is lifted is final, its main package. No condition. -/
import Derived.Test.YtafiiliglbepjaaDoorBase
import Derived.Test.YtafiiliglbepjaaDoorCards
import Derived.Test.YtafiiliglbepjaaDoorTie
import Derived.SevenTiedAt
namespace Go.Proofs.YtafiiliglbepjaaDoor
open Go Go.ChangeShapes Go.WideShapes Go.ChangeAt Go.RowKit
set_option maxRecDepth 100000
theorem seat_me : Tryd.prog.mayEnter = true := by kernel_rfl
theorem seat_lf : (Rows.fnExactReadNumberRow.lifted == Tryd.prog.liftsFinal) = true := by kernel_rfl
theorem seat_mk : (Tryd.prog.make == some Rows.fnExactReadNumberRow.make) = true := by kernel_rfl
theorem seat_mi : Tryd.pinned.checked.prog.mainIs = some (Rows.fnExactReadNumberCard.stood.harness.fst, Rows.fnExactReadNumberCard.stood.harness.snd.toList) := by kernel_rfl
end Go.Proofs.YtafiiliglbepjaaDoor
