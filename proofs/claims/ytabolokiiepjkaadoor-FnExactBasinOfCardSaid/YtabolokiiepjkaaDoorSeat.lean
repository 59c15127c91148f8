/- What holds of this seat's whole program, once for all its laws: it may enter its functions, what is lifted is final, its main package. No condition. -/
import Derived.Test.YtabolokiiepjkaaDoorBase
import Derived.Test.YtabolokiiepjkaaDoorCards
import Derived.Test.YtabolokiiepjkaaDoorTie
import Derived.SevenTiedAt
namespace Go.Proofs.YtabolokiiepjkaaDoor
open Go Go.ChangeShapes Go.WideShapes Go.ChangeAt Go.RowKit
set_option maxRecDepth 100000
theorem seat_me : Tryd.prog.mayEnter = true := by kernel_rfl
theorem seat_lf : (Rows.fnExactWaterPathRow.lifted == Tryd.prog.liftsFinal) = true := by kernel_rfl
theorem seat_mk : (Tryd.prog.make == some Rows.fnExactWaterPathRow.make) = true := by kernel_rfl
theorem seat_mi : Tryd.pinned.checked.prog.mainIs = some (Rows.fnExactWaterPathCard.stood.harness.fst, Rows.fnExactWaterPathCard.stood.harness.snd.toList) := by kernel_rfl
end Go.Proofs.YtabolokiiepjkaaDoor
