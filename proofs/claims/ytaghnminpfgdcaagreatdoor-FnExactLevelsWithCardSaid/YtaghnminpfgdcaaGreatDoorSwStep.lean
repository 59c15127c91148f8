/- The program's StepAtOnce. Condition: the table of math/bits is laid. -/
import Derived.Test.YtaghnminpfgdcaaGreatDoorSwOrd
namespace Go.Proofs.YtaghnminpfgdcaaGreatDoor
open Go Go.RowKit
set_option linter.unusedSimpArgs false
set_option linter.unusedVariables false

theorem new_thereG (t : TypeId) (w : World) : (w.alloc (.cells (Grd zG) t)).there w.heap.size 0 195 := there_row (heap_alloc_last w _) (Grd_size zG)

/-- What a step at once hands back. -/
def stepV (G : Gd) : Value := if validB G = true then sweptV (fun _ k => headO G k) G else .tuple #[.agg (Grd zG), .float .f32 0, .int .i64 1]

end Go.Proofs.YtaghnminpfgdcaaGreatDoor
