/-
  DERIVED. GIVEN WITH THE SEED: THE PROGRAM's TIES (one call each: nine closed facts by the kernel) AND EACH ROW's TIE, after the 31st guide's Derived/Test/Toyas{Tie, Card}.lean. No idea stands in it: it is a product of the set-up. Laid BY PROGRAM, IN A SANDBOX (cutbox-door.mjs). By AI agents, Wed Nov 11 2026. No macro, syntax, notation, axiom, sorry.
-/
import Derived.Test.YtbiknpfcemfoeaaDoorRows
import Derived.LaidByTextLater
import Derived.SevenTiedAt
import Derived.LaidSub
import Derived.LaidOnce
namespace Go.Proofs.YtbiknpfcemfoeaaDoor
open Go
set_option maxRecDepth 100000
theorem seatTie1 : Tryd.prog.laidByTextLater [("loop.example/g01288/impl.errNoTest", Rows.laid_loop_example_g01288_impl_errNoTest), ("loop.example/g01288/impl.errOutside", Rows.laid_loop_example_g01288_impl_errOutside), ("loop.example/g01288/impl.errBadNumber", Rows.laid_loop_example_g01288_impl_errBadNumber), ("loop.example/g01288/impl.errNoText", Rows.laid_loop_example_g01288_impl_errNoText), ("loop.example/g01288/impl.errNone", Rows.laid_loop_example_g01288_impl_errNone)] [.sentinel, .sentinel, .sentinel, .sentinel, .sentinel] true :=
  Program.laidByTextLater_by_one 104 8 2 (by kernel_rfl) (by kernel_rfl) (by kernel_rfl) (by kernel_rfl) (by kernel_rfl) (by kernel_rfl) (fun _ _ => by kernel_rfl)
theorem noOwnUnsafe : Tryd.pinned.checked.prog.headLifts.contains "ownunsafe" = false := by kernel_rfl
theorem tie : Tryd.prog.laidByTextLater [("loop.example/g01288/impl.errNoTest", Rows.laid_loop_example_g01288_impl_errNoTest), ("loop.example/g01288/impl.errOutside", Rows.laid_loop_example_g01288_impl_errOutside), ("loop.example/g01288/impl.errBadNumber", Rows.laid_loop_example_g01288_impl_errBadNumber), ("loop.example/g01288/impl.errNoText", Rows.laid_loop_example_g01288_impl_errNoText), ("loop.example/g01288/impl.errNone", Rows.laid_loop_example_g01288_impl_errNone)] [.sentinel, .sentinel, .sentinel, .sentinel, .sentinel] true :=
  Program.laidByTextLater.sub seatTie1 ["loop.example/g01288/impl.errNoTest", "loop.example/g01288/impl.errOutside", "loop.example/g01288/impl.errBadNumber", "loop.example/g01288/impl.errNoText", "loop.example/g01288/impl.errNone"] (by kernel_rfl) (by kernel_rfl)
theorem fnExactLineThrough_row_tie : Rows.fnExactLineThroughRow.laidByTextAt .later Tryd.pinned [.sentinel, .sentinel, .sentinel, .sentinel, .sentinel] true :=
  OpenClaim.laidByTextAt_later rfl rfl tie noOwnUnsafe
theorem fnExactReadingsFrom_row_tie : Rows.fnExactReadingsFromRow.laidByTextAt .later Tryd.pinned [.sentinel, .sentinel, .sentinel, .sentinel, .sentinel] true :=
  OpenClaim.laidByTextAt_later rfl rfl tie noOwnUnsafe
theorem fnExactMedianSlope_row_tie : Rows.fnExactMedianSlopeRow.laidByTextAt .later Tryd.pinned [.sentinel, .sentinel, .sentinel, .sentinel, .sentinel] true :=
  OpenClaim.laidByTextAt_later rfl rfl tie noOwnUnsafe
theorem fnExactFitFrom_row_tie : Rows.fnExactFitFromRow.laidByTextAt .later Tryd.pinned [.sentinel, .sentinel, .sentinel, .sentinel, .sentinel] true :=
  OpenClaim.laidByTextAt_later rfl rfl tie noOwnUnsafe
theorem fnExactLineThroughUpto_row_tie : Rows.fnExactLineThroughUptoRow.laidByTextAt .later Tryd.pinned [.sentinel, .sentinel, .sentinel, .sentinel, .sentinel] true :=
  OpenClaim.laidByTextAt_later rfl rfl tie noOwnUnsafe
theorem fnExactReadingsFromUpto_row_tie : Rows.fnExactReadingsFromUptoRow.laidByTextAt .later Tryd.pinned [.sentinel, .sentinel, .sentinel, .sentinel, .sentinel] true :=
  OpenClaim.laidByTextAt_later rfl rfl tie noOwnUnsafe
theorem fnExactMedianSlopeUpto_row_tie : Rows.fnExactMedianSlopeUptoRow.laidByTextAt .later Tryd.pinned [.sentinel, .sentinel, .sentinel, .sentinel, .sentinel] true :=
  OpenClaim.laidByTextAt_later rfl rfl tie noOwnUnsafe
theorem fnExactFitFromUpto_row_tie : Rows.fnExactFitFromUptoRow.laidByTextAt .later Tryd.pinned [.sentinel, .sentinel, .sentinel, .sentinel, .sentinel] true :=
  OpenClaim.laidByTextAt_later rfl rfl tie noOwnUnsafe
end Go.Proofs.YtbiknpfcemfoeaaDoor
