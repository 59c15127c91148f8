/-
  NARROWER THAN 'FOR EVERY INPUT', by the rows' own cells (each row's printed sentence says how): FnExactReadingsFrom: ifaces, laid · FnExactLineThrough: ifaces, laid · FnExactWorstReading: ifaces, laid · FnExactBestGuess: ifaces, laid · FnExactFitFrom: ifaces, laid · FnExactFitsWithin: ifaces, laid · FnExactTransmitSpan: ifaces, laid · FnExactMedianSlope: ifaces, laid.
  DERIVED. THE GIVEN ROWS OF THIS SEAT. 8 by the template 'for every input the law returns true; each argument reads behind the call as it read before'; 0 by the template 'total and deterministic' (their statements: YthacifhphoaioaaDoorTotals.lean).
  GIVEN WITH THE SEED: the statements are not yours to turn. If you find one false, say at which input.
  Laid BY PROGRAM, IN A SANDBOX (cutbox-rows.mjs): the forced cells as the released guide's own fill.sh prints them over the translation 44628efac447a039… (all of the seat's roots in one cut). By AI agents, Wed Nov 11 2026. No macro, syntax, notation, axiom, sorry.
-/
import Derived.Test.YthacifhphoaioaaDoorChecked
import GoSem.Claim
import GoSem.ClaimJoined
import GoSem.ClaimMapViews
import Derived.JoinedTies
import Derived.KernelRfl
namespace Go.Proofs.YthacifhphoaioaaDoor
/- THE CELL 'sum', in the pinned program and in every row, IS THE sha256 OF THE DUMP (.gsa) THAT YthacifhphoaioaaDoorProg.lean LOADS. Nothing in Lean hashes anything: it is a label: what it is worth is what the hold of that sum in a sandbox is worth. -/
noncomputable def Tryd.pinned : Pinned := { name := "ythacifhphoaioaadoor", sum := "44628efac447a039f62ee17b3a02f0bca2bee2be1237f8a147b9ca7b2ce95fbf", checked := Tryd.checked }
namespace Rows
def none {H : Type} : Left H := { results := [], args := [] }

/- WHAT THE LISTED PACKAGE-LEVEL VARIABLES READ AS WHEN THE CALL BEGINS. Each datum BY PROGRAM (the guide's laid-datum.mjs) off the statement by which the dump's own 'gosem.cut.vars' lays the variable. In a bare row this is a premise. The card (YthacifhphoaioaaDoorCards.lean) ties it to the program's text. -/
def laid_loop_example_g01288_impl_errNoTest {H : Type} : DataW H := .iface "*errors.errorString" (.ptr (.agg [.lit (.string [97, 110, 32, 97, 113, 117, 105, 102, 101, 114, 44, 32, 97, 32, 115, 105, 116, 101, 32, 111, 114, 32, 114, 101, 97, 100, 105, 110, 103, 115, 32, 97, 114, 101, 32, 110, 111, 116, 32, 118, 97, 108, 105, 100])]))
def laid_loop_example_g01288_impl_errOutside {H : Type} : DataW H := .iface "*errors.errorString" (.ptr (.agg [.lit (.string [97, 32, 110, 117, 109, 98, 101, 114, 44, 32, 111, 114, 32, 116, 104, 101, 32, 108, 101, 110, 103, 116, 104, 32, 111, 102, 32, 97, 32, 108, 105, 115, 116, 44, 32, 105, 115, 32, 110, 111, 116, 32, 111, 110, 101, 32, 116, 104, 97, 116, 32, 105, 115, 32, 97, 108, 108, 111, 119, 101, 100])]))
def laid_loop_example_g01288_impl_errBadNumber {H : Type} : DataW H := .iface "*errors.errorString" (.ptr (.agg [.lit (.string [97, 32, 110, 117, 109, 98, 101, 114, 32, 116, 104, 97, 116, 32, 119, 111, 117, 108, 100, 32, 98, 101, 32, 114, 101, 116, 117, 114, 110, 101, 100, 32, 105, 115, 32, 110, 111, 116, 32, 111, 110, 101, 32, 116, 104, 97, 116, 32, 109, 97, 121, 32, 98, 101])]))
def laid_loop_example_g01288_impl_errNoText {H : Type} : DataW H := .iface "*errors.errorString" (.ptr (.agg [.lit (.string [97, 32, 116, 101, 120, 116, 32, 105, 115, 32, 110, 111, 116, 32, 116, 104, 97, 116, 32, 111, 102, 32, 114, 101, 97, 100, 105, 110, 103, 115])]))
def laid_loop_example_g01288_impl_errNone {H : Type} : DataW H := .iface "*errors.errorString" (.ptr (.agg [.lit (.string [116, 104, 101, 114, 101, 32, 105, 115, 32, 110, 111, 110, 101, 32, 111, 102, 32, 119, 104, 97, 116, 32, 104, 97, 115, 32, 98, 101, 101, 110, 32, 97, 115, 107, 101, 100, 32, 102, 111, 114])]))

/-- 'laws.FnExactReadingsFrom': WHATEVER THE INPUT: true; the input reads as it did. -/
def fnExactReadingsFromSpec : ChangeSpec := { name := "fnExactReadingsFrom", vars := ["loop.example/g01288/impl.errOutside", "loop.example/g01288/impl.errNoTest", "loop.example/g01288/impl.errBadNumber", "loop.example/g01288/impl.errNoText", "loop.example/g01288/impl.errNone"], fn := fun _ => fun
  | [d1, d2, d3, g1, g2, g3, g4, g5] => { results := [.lit (.bool true)], args := [d1, d2, d3], vars := [g1, g2, g3, g4, g5] }
  | _ => none }
def fnExactReadingsFromRow : OpenClaim := { program := "ythacifhphoaioaadoor", sum := "44628efac447a039f62ee17b3a02f0bca2bee2be1237f8a147b9ca7b2ce95fbf", func := "loop.example/g01288/laws.FnExactReadingsFrom", spec := "fnExactReadingsFrom", inPlace := ["internal/reflectlite.TypeOf"], unfollowed := true, recurses := true, named := ["loop.example/g01288/impl.errOutside", "loop.example/g01288/impl.errNoTest", "loop.example/g01288/impl.errBadNumber", "loop.example/g01288/impl.errNoText", "loop.example/g01288/impl.errNone"], ifaces := true, apart := false, laid := [("loop.example/g01288/impl.errNoTest", laid_loop_example_g01288_impl_errNoTest), ("loop.example/g01288/impl.errOutside", laid_loop_example_g01288_impl_errOutside), ("loop.example/g01288/impl.errBadNumber", laid_loop_example_g01288_impl_errBadNumber), ("loop.example/g01288/impl.errNoText", laid_loop_example_g01288_impl_errNoText), ("loop.example/g01288/impl.errNone", laid_loop_example_g01288_impl_errNone)] }
def FnExactReadingsFromSaid : Prop := fnExactReadingsFromRow.holds Tryd.pinned (OpenSpec.ofChange fnExactReadingsFromSpec)

/-- ITS FALSE NEIGHBOUR: 'it returns false'. Refute it at one input. -/
def fnExactReadingsFromWrong : ChangeSpec := { name := "fnExactReadingsFrom", vars := ["loop.example/g01288/impl.errOutside", "loop.example/g01288/impl.errNoTest", "loop.example/g01288/impl.errBadNumber", "loop.example/g01288/impl.errNoText", "loop.example/g01288/impl.errNone"], fn := fun _ => fun
  | [d1, d2, d3, g1, g2, g3, g4, g5] => { results := [.lit (.bool false)], args := [d1, d2, d3], vars := [g1, g2, g3, g4, g5] }
  | _ => none }
def FnExactReadingsFromWrongFalsely : Prop := fnExactReadingsFromRow.holds Tryd.pinned (OpenSpec.ofChange fnExactReadingsFromWrong)

/-- 'laws.FnExactLineThrough': WHATEVER THE INPUT: true; the input reads as it did. -/
def fnExactLineThroughSpec : ChangeSpec := { name := "fnExactLineThrough", vars := ["loop.example/g01288/impl.errNone", "loop.example/g01288/impl.errBadNumber", "loop.example/g01288/impl.errNoTest", "loop.example/g01288/impl.errOutside", "loop.example/g01288/impl.errNoText"], fn := fun _ => fun
  | [d, g1, g2, g3, g4, g5] => { results := [.lit (.bool true)], args := [d], vars := [g1, g2, g3, g4, g5] }
  | _ => none }
def fnExactLineThroughRow : OpenClaim := { program := "ythacifhphoaioaadoor", sum := "44628efac447a039f62ee17b3a02f0bca2bee2be1237f8a147b9ca7b2ce95fbf", func := "loop.example/g01288/laws.FnExactLineThrough", spec := "fnExactLineThrough", inPlace := ["math.Float64bits", "math.Float64frombits", "internal/reflectlite.TypeOf"], unfollowed := true, recurses := true, named := ["loop.example/g01288/impl.errNone", "loop.example/g01288/impl.errBadNumber", "loop.example/g01288/impl.errNoTest", "loop.example/g01288/impl.errOutside", "loop.example/g01288/impl.errNoText"], ifaces := true, apart := false, laid := [("loop.example/g01288/impl.errNoTest", laid_loop_example_g01288_impl_errNoTest), ("loop.example/g01288/impl.errOutside", laid_loop_example_g01288_impl_errOutside), ("loop.example/g01288/impl.errBadNumber", laid_loop_example_g01288_impl_errBadNumber), ("loop.example/g01288/impl.errNoText", laid_loop_example_g01288_impl_errNoText), ("loop.example/g01288/impl.errNone", laid_loop_example_g01288_impl_errNone)] }
def FnExactLineThroughSaid : Prop := fnExactLineThroughRow.holds Tryd.pinned (OpenSpec.ofChange fnExactLineThroughSpec)

/-- ITS FALSE NEIGHBOUR: 'it returns false'. Refute it at one input. -/
def fnExactLineThroughWrong : ChangeSpec := { name := "fnExactLineThrough", vars := ["loop.example/g01288/impl.errNone", "loop.example/g01288/impl.errBadNumber", "loop.example/g01288/impl.errNoTest", "loop.example/g01288/impl.errOutside", "loop.example/g01288/impl.errNoText"], fn := fun _ => fun
  | [d, g1, g2, g3, g4, g5] => { results := [.lit (.bool false)], args := [d], vars := [g1, g2, g3, g4, g5] }
  | _ => none }
def FnExactLineThroughWrongFalsely : Prop := fnExactLineThroughRow.holds Tryd.pinned (OpenSpec.ofChange fnExactLineThroughWrong)

/-- 'laws.FnExactWorstReading': WHATEVER THE INPUT: true; the input reads as it did. -/
def fnExactWorstReadingSpec : ChangeSpec := { name := "fnExactWorstReading", vars := ["loop.example/g01288/impl.errNone", "loop.example/g01288/impl.errNoTest", "loop.example/g01288/impl.errOutside", "loop.example/g01288/impl.errBadNumber", "loop.example/g01288/impl.errNoText"], fn := fun _ => fun
  | [d1, d2, d3, g1, g2, g3, g4, g5] => { results := [.lit (.bool true)], args := [d1, d2, d3], vars := [g1, g2, g3, g4, g5] }
  | _ => none }
def fnExactWorstReadingRow : OpenClaim := { program := "ythacifhphoaioaadoor", sum := "44628efac447a039f62ee17b3a02f0bca2bee2be1237f8a147b9ca7b2ce95fbf", func := "loop.example/g01288/laws.FnExactWorstReading", spec := "fnExactWorstReading", inPlace := ["math.Float64bits", "math.Float64frombits", "internal/reflectlite.TypeOf"], unfollowed := true, recurses := true, named := ["loop.example/g01288/impl.errNone", "loop.example/g01288/impl.errNoTest", "loop.example/g01288/impl.errOutside", "loop.example/g01288/impl.errBadNumber", "loop.example/g01288/impl.errNoText"], ifaces := true, apart := false, laid := [("loop.example/g01288/impl.errNoTest", laid_loop_example_g01288_impl_errNoTest), ("loop.example/g01288/impl.errOutside", laid_loop_example_g01288_impl_errOutside), ("loop.example/g01288/impl.errBadNumber", laid_loop_example_g01288_impl_errBadNumber), ("loop.example/g01288/impl.errNoText", laid_loop_example_g01288_impl_errNoText), ("loop.example/g01288/impl.errNone", laid_loop_example_g01288_impl_errNone)] }
def FnExactWorstReadingSaid : Prop := fnExactWorstReadingRow.holds Tryd.pinned (OpenSpec.ofChange fnExactWorstReadingSpec)

/-- ITS FALSE NEIGHBOUR: 'it returns false'. Refute it at one input. -/
def fnExactWorstReadingWrong : ChangeSpec := { name := "fnExactWorstReading", vars := ["loop.example/g01288/impl.errNone", "loop.example/g01288/impl.errNoTest", "loop.example/g01288/impl.errOutside", "loop.example/g01288/impl.errBadNumber", "loop.example/g01288/impl.errNoText"], fn := fun _ => fun
  | [d1, d2, d3, g1, g2, g3, g4, g5] => { results := [.lit (.bool false)], args := [d1, d2, d3], vars := [g1, g2, g3, g4, g5] }
  | _ => none }
def FnExactWorstReadingWrongFalsely : Prop := fnExactWorstReadingRow.holds Tryd.pinned (OpenSpec.ofChange fnExactWorstReadingWrong)

/-- 'laws.FnExactBestGuess': WHATEVER THE INPUT: true; the input reads as it did. -/
def fnExactBestGuessSpec : ChangeSpec := { name := "fnExactBestGuess", vars := ["loop.example/g01288/impl.errOutside", "loop.example/g01288/impl.errNoTest", "loop.example/g01288/impl.errBadNumber", "loop.example/g01288/impl.errNoText", "loop.example/g01288/impl.errNone"], fn := fun _ => fun
  | [d1, d2, d3, g1, g2, g3, g4, g5] => { results := [.lit (.bool true)], args := [d1, d2, d3], vars := [g1, g2, g3, g4, g5] }
  | _ => none }
def fnExactBestGuessRow : OpenClaim := { program := "ythacifhphoaioaadoor", sum := "44628efac447a039f62ee17b3a02f0bca2bee2be1237f8a147b9ca7b2ce95fbf", func := "loop.example/g01288/laws.FnExactBestGuess", spec := "fnExactBestGuess", inPlace := ["math.Float64bits", "math.Float64frombits", "internal/reflectlite.TypeOf"], unfollowed := true, recurses := true, named := ["loop.example/g01288/impl.errOutside", "loop.example/g01288/impl.errNoTest", "loop.example/g01288/impl.errBadNumber", "loop.example/g01288/impl.errNoText", "loop.example/g01288/impl.errNone"], ifaces := true, apart := false, laid := [("loop.example/g01288/impl.errNoTest", laid_loop_example_g01288_impl_errNoTest), ("loop.example/g01288/impl.errOutside", laid_loop_example_g01288_impl_errOutside), ("loop.example/g01288/impl.errBadNumber", laid_loop_example_g01288_impl_errBadNumber), ("loop.example/g01288/impl.errNoText", laid_loop_example_g01288_impl_errNoText), ("loop.example/g01288/impl.errNone", laid_loop_example_g01288_impl_errNone)] }
def FnExactBestGuessSaid : Prop := fnExactBestGuessRow.holds Tryd.pinned (OpenSpec.ofChange fnExactBestGuessSpec)

/-- ITS FALSE NEIGHBOUR: 'it returns false'. Refute it at one input. -/
def fnExactBestGuessWrong : ChangeSpec := { name := "fnExactBestGuess", vars := ["loop.example/g01288/impl.errOutside", "loop.example/g01288/impl.errNoTest", "loop.example/g01288/impl.errBadNumber", "loop.example/g01288/impl.errNoText", "loop.example/g01288/impl.errNone"], fn := fun _ => fun
  | [d1, d2, d3, g1, g2, g3, g4, g5] => { results := [.lit (.bool false)], args := [d1, d2, d3], vars := [g1, g2, g3, g4, g5] }
  | _ => none }
def FnExactBestGuessWrongFalsely : Prop := fnExactBestGuessRow.holds Tryd.pinned (OpenSpec.ofChange fnExactBestGuessWrong)

/-- 'laws.FnExactFitFrom': WHATEVER THE INPUT: true; the input reads as it did. -/
def fnExactFitFromSpec : ChangeSpec := { name := "fnExactFitFrom", vars := ["loop.example/g01288/impl.errOutside", "loop.example/g01288/impl.errNoTest", "loop.example/g01288/impl.errBadNumber", "loop.example/g01288/impl.errNoText", "loop.example/g01288/impl.errNone"], fn := fun _ => fun
  | [d1, d2, d3, d4, g1, g2, g3, g4, g5] => { results := [.lit (.bool true)], args := [d1, d2, d3, d4], vars := [g1, g2, g3, g4, g5] }
  | _ => none }
def fnExactFitFromRow : OpenClaim := { program := "ythacifhphoaioaadoor", sum := "44628efac447a039f62ee17b3a02f0bca2bee2be1237f8a147b9ca7b2ce95fbf", func := "loop.example/g01288/laws.FnExactFitFrom", spec := "fnExactFitFrom", inPlace := ["internal/reflectlite.TypeOf", "math.Float64bits", "math.Float64frombits"], unfollowed := true, recurses := true, named := ["loop.example/g01288/impl.errOutside", "loop.example/g01288/impl.errNoTest", "loop.example/g01288/impl.errBadNumber", "loop.example/g01288/impl.errNoText", "loop.example/g01288/impl.errNone"], ifaces := true, apart := false, laid := [("loop.example/g01288/impl.errNoTest", laid_loop_example_g01288_impl_errNoTest), ("loop.example/g01288/impl.errOutside", laid_loop_example_g01288_impl_errOutside), ("loop.example/g01288/impl.errBadNumber", laid_loop_example_g01288_impl_errBadNumber), ("loop.example/g01288/impl.errNoText", laid_loop_example_g01288_impl_errNoText), ("loop.example/g01288/impl.errNone", laid_loop_example_g01288_impl_errNone)] }
def FnExactFitFromSaid : Prop := fnExactFitFromRow.holds Tryd.pinned (OpenSpec.ofChange fnExactFitFromSpec)

/-- ITS FALSE NEIGHBOUR: 'it returns false'. Refute it at one input. -/
def fnExactFitFromWrong : ChangeSpec := { name := "fnExactFitFrom", vars := ["loop.example/g01288/impl.errOutside", "loop.example/g01288/impl.errNoTest", "loop.example/g01288/impl.errBadNumber", "loop.example/g01288/impl.errNoText", "loop.example/g01288/impl.errNone"], fn := fun _ => fun
  | [d1, d2, d3, d4, g1, g2, g3, g4, g5] => { results := [.lit (.bool false)], args := [d1, d2, d3, d4], vars := [g1, g2, g3, g4, g5] }
  | _ => none }
def FnExactFitFromWrongFalsely : Prop := fnExactFitFromRow.holds Tryd.pinned (OpenSpec.ofChange fnExactFitFromWrong)

/-- 'laws.FnExactFitsWithin': WHATEVER THE INPUT: true; the input reads as it did. -/
def fnExactFitsWithinSpec : ChangeSpec := { name := "fnExactFitsWithin", vars := ["loop.example/g01288/impl.errOutside", "loop.example/g01288/impl.errNoTest", "loop.example/g01288/impl.errBadNumber", "loop.example/g01288/impl.errNoText", "loop.example/g01288/impl.errNone"], fn := fun _ => fun
  | [d1, d2, d3, d4, g1, g2, g3, g4, g5] => { results := [.lit (.bool true)], args := [d1, d2, d3, d4], vars := [g1, g2, g3, g4, g5] }
  | _ => none }
def fnExactFitsWithinRow : OpenClaim := { program := "ythacifhphoaioaadoor", sum := "44628efac447a039f62ee17b3a02f0bca2bee2be1237f8a147b9ca7b2ce95fbf", func := "loop.example/g01288/laws.FnExactFitsWithin", spec := "fnExactFitsWithin", inPlace := ["math.Float64bits", "math.Float64frombits", "internal/reflectlite.TypeOf"], unfollowed := true, recurses := true, named := ["loop.example/g01288/impl.errOutside", "loop.example/g01288/impl.errNoTest", "loop.example/g01288/impl.errBadNumber", "loop.example/g01288/impl.errNoText", "loop.example/g01288/impl.errNone"], ifaces := true, apart := false, laid := [("loop.example/g01288/impl.errNoTest", laid_loop_example_g01288_impl_errNoTest), ("loop.example/g01288/impl.errOutside", laid_loop_example_g01288_impl_errOutside), ("loop.example/g01288/impl.errBadNumber", laid_loop_example_g01288_impl_errBadNumber), ("loop.example/g01288/impl.errNoText", laid_loop_example_g01288_impl_errNoText), ("loop.example/g01288/impl.errNone", laid_loop_example_g01288_impl_errNone)] }
def FnExactFitsWithinSaid : Prop := fnExactFitsWithinRow.holds Tryd.pinned (OpenSpec.ofChange fnExactFitsWithinSpec)

/-- ITS FALSE NEIGHBOUR: 'it returns false'. Refute it at one input. -/
def fnExactFitsWithinWrong : ChangeSpec := { name := "fnExactFitsWithin", vars := ["loop.example/g01288/impl.errOutside", "loop.example/g01288/impl.errNoTest", "loop.example/g01288/impl.errBadNumber", "loop.example/g01288/impl.errNoText", "loop.example/g01288/impl.errNone"], fn := fun _ => fun
  | [d1, d2, d3, d4, g1, g2, g3, g4, g5] => { results := [.lit (.bool false)], args := [d1, d2, d3, d4], vars := [g1, g2, g3, g4, g5] }
  | _ => none }
def FnExactFitsWithinWrongFalsely : Prop := fnExactFitsWithinRow.holds Tryd.pinned (OpenSpec.ofChange fnExactFitsWithinWrong)

/-- 'laws.FnExactTransmitSpan': WHATEVER THE INPUT: true; the input reads as it did. -/
def fnExactTransmitSpanSpec : ChangeSpec := { name := "fnExactTransmitSpan", vars := ["loop.example/g01288/impl.errNone", "loop.example/g01288/impl.errOutside", "loop.example/g01288/impl.errNoTest", "loop.example/g01288/impl.errBadNumber", "loop.example/g01288/impl.errNoText"], fn := fun _ => fun
  | [d1, d2, d3, d4, g1, g2, g3, g4, g5] => { results := [.lit (.bool true)], args := [d1, d2, d3, d4], vars := [g1, g2, g3, g4, g5] }
  | _ => none }
def fnExactTransmitSpanRow : OpenClaim := { program := "ythacifhphoaioaadoor", sum := "44628efac447a039f62ee17b3a02f0bca2bee2be1237f8a147b9ca7b2ce95fbf", func := "loop.example/g01288/laws.FnExactTransmitSpan", spec := "fnExactTransmitSpan", inPlace := ["math.Float64bits", "math.Float64frombits", "internal/reflectlite.TypeOf"], unfollowed := true, recurses := true, named := ["loop.example/g01288/impl.errNone", "loop.example/g01288/impl.errOutside", "loop.example/g01288/impl.errNoTest", "loop.example/g01288/impl.errBadNumber", "loop.example/g01288/impl.errNoText"], ifaces := true, apart := false, laid := [("loop.example/g01288/impl.errNoTest", laid_loop_example_g01288_impl_errNoTest), ("loop.example/g01288/impl.errOutside", laid_loop_example_g01288_impl_errOutside), ("loop.example/g01288/impl.errBadNumber", laid_loop_example_g01288_impl_errBadNumber), ("loop.example/g01288/impl.errNoText", laid_loop_example_g01288_impl_errNoText), ("loop.example/g01288/impl.errNone", laid_loop_example_g01288_impl_errNone)] }
def FnExactTransmitSpanSaid : Prop := fnExactTransmitSpanRow.holds Tryd.pinned (OpenSpec.ofChange fnExactTransmitSpanSpec)

/-- ITS FALSE NEIGHBOUR: 'it returns false'. Refute it at one input. -/
def fnExactTransmitSpanWrong : ChangeSpec := { name := "fnExactTransmitSpan", vars := ["loop.example/g01288/impl.errNone", "loop.example/g01288/impl.errOutside", "loop.example/g01288/impl.errNoTest", "loop.example/g01288/impl.errBadNumber", "loop.example/g01288/impl.errNoText"], fn := fun _ => fun
  | [d1, d2, d3, d4, g1, g2, g3, g4, g5] => { results := [.lit (.bool false)], args := [d1, d2, d3, d4], vars := [g1, g2, g3, g4, g5] }
  | _ => none }
def FnExactTransmitSpanWrongFalsely : Prop := fnExactTransmitSpanRow.holds Tryd.pinned (OpenSpec.ofChange fnExactTransmitSpanWrong)

/-- 'laws.FnExactMedianSlope': WHATEVER THE INPUT: true; the input reads as it did. -/
def fnExactMedianSlopeSpec : ChangeSpec := { name := "fnExactMedianSlope", vars := ["loop.example/g01288/impl.errNone", "loop.example/g01288/impl.errNoTest", "loop.example/g01288/impl.errOutside", "loop.example/g01288/impl.errBadNumber", "loop.example/g01288/impl.errNoText"], fn := fun _ => fun
  | [d, g1, g2, g3, g4, g5] => { results := [.lit (.bool true)], args := [d], vars := [g1, g2, g3, g4, g5] }
  | _ => none }
def fnExactMedianSlopeRow : OpenClaim := { program := "ythacifhphoaioaadoor", sum := "44628efac447a039f62ee17b3a02f0bca2bee2be1237f8a147b9ca7b2ce95fbf", func := "loop.example/g01288/laws.FnExactMedianSlope", spec := "fnExactMedianSlope", inPlace := ["internal/reflectlite.TypeOf"], unfollowed := true, recurses := true, named := ["loop.example/g01288/impl.errNone", "loop.example/g01288/impl.errNoTest", "loop.example/g01288/impl.errOutside", "loop.example/g01288/impl.errBadNumber", "loop.example/g01288/impl.errNoText"], ifaces := true, apart := false, laid := [("loop.example/g01288/impl.errNoTest", laid_loop_example_g01288_impl_errNoTest), ("loop.example/g01288/impl.errOutside", laid_loop_example_g01288_impl_errOutside), ("loop.example/g01288/impl.errBadNumber", laid_loop_example_g01288_impl_errBadNumber), ("loop.example/g01288/impl.errNoText", laid_loop_example_g01288_impl_errNoText), ("loop.example/g01288/impl.errNone", laid_loop_example_g01288_impl_errNone)] }
def FnExactMedianSlopeSaid : Prop := fnExactMedianSlopeRow.holds Tryd.pinned (OpenSpec.ofChange fnExactMedianSlopeSpec)

/-- ITS FALSE NEIGHBOUR: 'it returns false'. Refute it at one input. -/
def fnExactMedianSlopeWrong : ChangeSpec := { name := "fnExactMedianSlope", vars := ["loop.example/g01288/impl.errNone", "loop.example/g01288/impl.errNoTest", "loop.example/g01288/impl.errOutside", "loop.example/g01288/impl.errBadNumber", "loop.example/g01288/impl.errNoText"], fn := fun _ => fun
  | [d, g1, g2, g3, g4, g5] => { results := [.lit (.bool false)], args := [d], vars := [g1, g2, g3, g4, g5] }
  | _ => none }
def FnExactMedianSlopeWrongFalsely : Prop := fnExactMedianSlopeRow.holds Tryd.pinned (OpenSpec.ofChange fnExactMedianSlopeWrong)

/- THE SECOND FORM. 'bulk': how many values and letters a reading holds, each counted each time it is reached (what is shared counts as often as it is met; a slice's spare places count too). A statement '..UptoSaid' is the law's where the arguments, and the package variables that the reading takes, are together of bulk at most 1048576: NARROWER than '..Said'. Prove '..Said' where nothing that the law and all that it calls make is longer than what came in: it says more and counts as full. Else prove '..UptoSaid'. A law counts once. -/
mutual
def uptoBulk {H : Type} : DataW H → Nat
  | .lit (.string bytes) => bytes.length + 1
  | .lit _ => 1
  | .nil => 1
  | .ptr d => uptoBulk d + 1
  | .slice elems spare => uptoBulkAll elems + uptoBulkAll spare + 1
  | .agg parts => uptoBulkAll parts + 1
  | .iface _ d => uptoBulk d + 1
  | .map entries => uptoBulkEntries entries + 1
  | .held _ => 1
def uptoBulkAll {H : Type} : List (DataW H) → Nat
  | [] => 0
  | d :: r => uptoBulk d + uptoBulkAll r
def uptoBulkEntries {H : Type} : List (Lit × DataW H) → Nat
  | [] => 0
  | x :: r => uptoBulkEntry x + uptoBulkEntries r
def uptoBulkEntry {H : Type} : Lit × DataW H → Nat
  | (.string bytes, d) => bytes.length + uptoBulk d + 1
  | (_, d) => uptoBulk d + 1
 end
def uptoSmall : (H : Type) → List (DataW H) → Bool := fun _ ds => decide (uptoBulkAll ds ≤ 1048576)
def OpenSpec.upto (s : _root_.Go.ChangeSpec) : _root_.Go.OpenSpec := { _root_.Go.OpenSpec.ofChange s with cond := some uptoSmall }

/-- 'laws.FnExactReadingsFrom', WHERE WHAT IT READS IS OF BULK AT MOST 1048576: true; the input reads as it did. -/
def fnExactReadingsFromUptoRow : OpenClaim := { program := "ythacifhphoaioaadoor", sum := "44628efac447a039f62ee17b3a02f0bca2bee2be1237f8a147b9ca7b2ce95fbf", func := "loop.example/g01288/laws.FnExactReadingsFrom", spec := "fnExactReadingsFrom", inPlace := ["internal/reflectlite.TypeOf"], unfollowed := true, recurses := true, named := ["loop.example/g01288/impl.errOutside", "loop.example/g01288/impl.errNoTest", "loop.example/g01288/impl.errBadNumber", "loop.example/g01288/impl.errNoText", "loop.example/g01288/impl.errNone"], ifaces := true, apart := false, laid := [("loop.example/g01288/impl.errNoTest", laid_loop_example_g01288_impl_errNoTest), ("loop.example/g01288/impl.errOutside", laid_loop_example_g01288_impl_errOutside), ("loop.example/g01288/impl.errBadNumber", laid_loop_example_g01288_impl_errBadNumber), ("loop.example/g01288/impl.errNoText", laid_loop_example_g01288_impl_errNoText), ("loop.example/g01288/impl.errNone", laid_loop_example_g01288_impl_errNone)], narrowed := true }
def FnExactReadingsFromUptoSaid : Prop := fnExactReadingsFromUptoRow.holds Tryd.pinned (OpenSpec.upto fnExactReadingsFromSpec)

/-- 'laws.FnExactLineThrough', WHERE WHAT IT READS IS OF BULK AT MOST 1048576: true; the input reads as it did. -/
def fnExactLineThroughUptoRow : OpenClaim := { program := "ythacifhphoaioaadoor", sum := "44628efac447a039f62ee17b3a02f0bca2bee2be1237f8a147b9ca7b2ce95fbf", func := "loop.example/g01288/laws.FnExactLineThrough", spec := "fnExactLineThrough", inPlace := ["math.Float64bits", "math.Float64frombits", "internal/reflectlite.TypeOf"], unfollowed := true, recurses := true, named := ["loop.example/g01288/impl.errNone", "loop.example/g01288/impl.errBadNumber", "loop.example/g01288/impl.errNoTest", "loop.example/g01288/impl.errOutside", "loop.example/g01288/impl.errNoText"], ifaces := true, apart := false, laid := [("loop.example/g01288/impl.errNoTest", laid_loop_example_g01288_impl_errNoTest), ("loop.example/g01288/impl.errOutside", laid_loop_example_g01288_impl_errOutside), ("loop.example/g01288/impl.errBadNumber", laid_loop_example_g01288_impl_errBadNumber), ("loop.example/g01288/impl.errNoText", laid_loop_example_g01288_impl_errNoText), ("loop.example/g01288/impl.errNone", laid_loop_example_g01288_impl_errNone)], narrowed := true }
def FnExactLineThroughUptoSaid : Prop := fnExactLineThroughUptoRow.holds Tryd.pinned (OpenSpec.upto fnExactLineThroughSpec)

/-- 'laws.FnExactWorstReading', WHERE WHAT IT READS IS OF BULK AT MOST 1048576: true; the input reads as it did. -/
def fnExactWorstReadingUptoRow : OpenClaim := { program := "ythacifhphoaioaadoor", sum := "44628efac447a039f62ee17b3a02f0bca2bee2be1237f8a147b9ca7b2ce95fbf", func := "loop.example/g01288/laws.FnExactWorstReading", spec := "fnExactWorstReading", inPlace := ["math.Float64bits", "math.Float64frombits", "internal/reflectlite.TypeOf"], unfollowed := true, recurses := true, named := ["loop.example/g01288/impl.errNone", "loop.example/g01288/impl.errNoTest", "loop.example/g01288/impl.errOutside", "loop.example/g01288/impl.errBadNumber", "loop.example/g01288/impl.errNoText"], ifaces := true, apart := false, laid := [("loop.example/g01288/impl.errNoTest", laid_loop_example_g01288_impl_errNoTest), ("loop.example/g01288/impl.errOutside", laid_loop_example_g01288_impl_errOutside), ("loop.example/g01288/impl.errBadNumber", laid_loop_example_g01288_impl_errBadNumber), ("loop.example/g01288/impl.errNoText", laid_loop_example_g01288_impl_errNoText), ("loop.example/g01288/impl.errNone", laid_loop_example_g01288_impl_errNone)], narrowed := true }
def FnExactWorstReadingUptoSaid : Prop := fnExactWorstReadingUptoRow.holds Tryd.pinned (OpenSpec.upto fnExactWorstReadingSpec)

/-- 'laws.FnExactBestGuess', WHERE WHAT IT READS IS OF BULK AT MOST 1048576: true; the input reads as it did. -/
def fnExactBestGuessUptoRow : OpenClaim := { program := "ythacifhphoaioaadoor", sum := "44628efac447a039f62ee17b3a02f0bca2bee2be1237f8a147b9ca7b2ce95fbf", func := "loop.example/g01288/laws.FnExactBestGuess", spec := "fnExactBestGuess", inPlace := ["math.Float64bits", "math.Float64frombits", "internal/reflectlite.TypeOf"], unfollowed := true, recurses := true, named := ["loop.example/g01288/impl.errOutside", "loop.example/g01288/impl.errNoTest", "loop.example/g01288/impl.errBadNumber", "loop.example/g01288/impl.errNoText", "loop.example/g01288/impl.errNone"], ifaces := true, apart := false, laid := [("loop.example/g01288/impl.errNoTest", laid_loop_example_g01288_impl_errNoTest), ("loop.example/g01288/impl.errOutside", laid_loop_example_g01288_impl_errOutside), ("loop.example/g01288/impl.errBadNumber", laid_loop_example_g01288_impl_errBadNumber), ("loop.example/g01288/impl.errNoText", laid_loop_example_g01288_impl_errNoText), ("loop.example/g01288/impl.errNone", laid_loop_example_g01288_impl_errNone)], narrowed := true }
def FnExactBestGuessUptoSaid : Prop := fnExactBestGuessUptoRow.holds Tryd.pinned (OpenSpec.upto fnExactBestGuessSpec)

/-- 'laws.FnExactFitFrom', WHERE WHAT IT READS IS OF BULK AT MOST 1048576: true; the input reads as it did. -/
def fnExactFitFromUptoRow : OpenClaim := { program := "ythacifhphoaioaadoor", sum := "44628efac447a039f62ee17b3a02f0bca2bee2be1237f8a147b9ca7b2ce95fbf", func := "loop.example/g01288/laws.FnExactFitFrom", spec := "fnExactFitFrom", inPlace := ["internal/reflectlite.TypeOf", "math.Float64bits", "math.Float64frombits"], unfollowed := true, recurses := true, named := ["loop.example/g01288/impl.errOutside", "loop.example/g01288/impl.errNoTest", "loop.example/g01288/impl.errBadNumber", "loop.example/g01288/impl.errNoText", "loop.example/g01288/impl.errNone"], ifaces := true, apart := false, laid := [("loop.example/g01288/impl.errNoTest", laid_loop_example_g01288_impl_errNoTest), ("loop.example/g01288/impl.errOutside", laid_loop_example_g01288_impl_errOutside), ("loop.example/g01288/impl.errBadNumber", laid_loop_example_g01288_impl_errBadNumber), ("loop.example/g01288/impl.errNoText", laid_loop_example_g01288_impl_errNoText), ("loop.example/g01288/impl.errNone", laid_loop_example_g01288_impl_errNone)], narrowed := true }
def FnExactFitFromUptoSaid : Prop := fnExactFitFromUptoRow.holds Tryd.pinned (OpenSpec.upto fnExactFitFromSpec)

/-- 'laws.FnExactFitsWithin', WHERE WHAT IT READS IS OF BULK AT MOST 1048576: true; the input reads as it did. -/
def fnExactFitsWithinUptoRow : OpenClaim := { program := "ythacifhphoaioaadoor", sum := "44628efac447a039f62ee17b3a02f0bca2bee2be1237f8a147b9ca7b2ce95fbf", func := "loop.example/g01288/laws.FnExactFitsWithin", spec := "fnExactFitsWithin", inPlace := ["math.Float64bits", "math.Float64frombits", "internal/reflectlite.TypeOf"], unfollowed := true, recurses := true, named := ["loop.example/g01288/impl.errOutside", "loop.example/g01288/impl.errNoTest", "loop.example/g01288/impl.errBadNumber", "loop.example/g01288/impl.errNoText", "loop.example/g01288/impl.errNone"], ifaces := true, apart := false, laid := [("loop.example/g01288/impl.errNoTest", laid_loop_example_g01288_impl_errNoTest), ("loop.example/g01288/impl.errOutside", laid_loop_example_g01288_impl_errOutside), ("loop.example/g01288/impl.errBadNumber", laid_loop_example_g01288_impl_errBadNumber), ("loop.example/g01288/impl.errNoText", laid_loop_example_g01288_impl_errNoText), ("loop.example/g01288/impl.errNone", laid_loop_example_g01288_impl_errNone)], narrowed := true }
def FnExactFitsWithinUptoSaid : Prop := fnExactFitsWithinUptoRow.holds Tryd.pinned (OpenSpec.upto fnExactFitsWithinSpec)

/-- 'laws.FnExactTransmitSpan', WHERE WHAT IT READS IS OF BULK AT MOST 1048576: true; the input reads as it did. -/
def fnExactTransmitSpanUptoRow : OpenClaim := { program := "ythacifhphoaioaadoor", sum := "44628efac447a039f62ee17b3a02f0bca2bee2be1237f8a147b9ca7b2ce95fbf", func := "loop.example/g01288/laws.FnExactTransmitSpan", spec := "fnExactTransmitSpan", inPlace := ["math.Float64bits", "math.Float64frombits", "internal/reflectlite.TypeOf"], unfollowed := true, recurses := true, named := ["loop.example/g01288/impl.errNone", "loop.example/g01288/impl.errOutside", "loop.example/g01288/impl.errNoTest", "loop.example/g01288/impl.errBadNumber", "loop.example/g01288/impl.errNoText"], ifaces := true, apart := false, laid := [("loop.example/g01288/impl.errNoTest", laid_loop_example_g01288_impl_errNoTest), ("loop.example/g01288/impl.errOutside", laid_loop_example_g01288_impl_errOutside), ("loop.example/g01288/impl.errBadNumber", laid_loop_example_g01288_impl_errBadNumber), ("loop.example/g01288/impl.errNoText", laid_loop_example_g01288_impl_errNoText), ("loop.example/g01288/impl.errNone", laid_loop_example_g01288_impl_errNone)], narrowed := true }
def FnExactTransmitSpanUptoSaid : Prop := fnExactTransmitSpanUptoRow.holds Tryd.pinned (OpenSpec.upto fnExactTransmitSpanSpec)

/-- 'laws.FnExactMedianSlope', WHERE WHAT IT READS IS OF BULK AT MOST 1048576: true; the input reads as it did. -/
def fnExactMedianSlopeUptoRow : OpenClaim := { program := "ythacifhphoaioaadoor", sum := "44628efac447a039f62ee17b3a02f0bca2bee2be1237f8a147b9ca7b2ce95fbf", func := "loop.example/g01288/laws.FnExactMedianSlope", spec := "fnExactMedianSlope", inPlace := ["internal/reflectlite.TypeOf"], unfollowed := true, recurses := true, named := ["loop.example/g01288/impl.errNone", "loop.example/g01288/impl.errNoTest", "loop.example/g01288/impl.errOutside", "loop.example/g01288/impl.errBadNumber", "loop.example/g01288/impl.errNoText"], ifaces := true, apart := false, laid := [("loop.example/g01288/impl.errNoTest", laid_loop_example_g01288_impl_errNoTest), ("loop.example/g01288/impl.errOutside", laid_loop_example_g01288_impl_errOutside), ("loop.example/g01288/impl.errBadNumber", laid_loop_example_g01288_impl_errBadNumber), ("loop.example/g01288/impl.errNoText", laid_loop_example_g01288_impl_errNoText), ("loop.example/g01288/impl.errNone", laid_loop_example_g01288_impl_errNone)], narrowed := true }
def FnExactMedianSlopeUptoSaid : Prop := fnExactMedianSlopeUptoRow.holds Tryd.pinned (OpenSpec.upto fnExactMedianSlopeSpec)

end Rows
end Go.Proofs.YthacifhphoaioaaDoor
