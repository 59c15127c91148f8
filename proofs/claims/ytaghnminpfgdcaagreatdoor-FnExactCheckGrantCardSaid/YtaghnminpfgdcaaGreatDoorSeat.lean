/- What holds of this seat's whole program, once for all its laws: it may enter its functions, what is lifted is final, its main package. No condition. -/
import Derived.Test.YtaghnminpfgdcaaGreatDoorBase
import Derived.Test.YtaghnminpfgdcaaGreatDoorCards
import Derived.Test.YtaghnminpfgdcaaGreatDoorTie
import Derived.SevenTiedAt
namespace Go.Proofs.YtaghnminpfgdcaaGreatDoor
open Go Go.ChangeShapes Go.WideShapes Go.ChangeAt Go.RowKit
set_option maxRecDepth 100000
theorem seat_me : Tryz.prog.mayEnter = true := by kernel_rfl
theorem seat_lf : (Rows.fnExactGroundWithRow.lifted == Tryz.prog.liftsFinal) = true := by kernel_rfl
theorem seat_mk : (Tryz.prog.make == some Rows.fnExactGroundWithRow.make) = true := by kernel_rfl
theorem seat_mi : Tryz.pinned.checked.prog.mainIs = some (Rows.fnExactGroundWithCard.stood.harness.fst, Rows.fnExactGroundWithCard.stood.harness.snd.toList) := by kernel_rfl
end Go.Proofs.YtaghnminpfgdcaaGreatDoor
