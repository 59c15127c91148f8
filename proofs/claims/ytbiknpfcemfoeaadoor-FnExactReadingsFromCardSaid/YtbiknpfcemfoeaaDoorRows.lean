/-
  NARROWER THAN 'FOR EVERY INPUT', by the rows' own cells (each row's printed sentence says how): FnExactLineThrough: ifaces, laid · FnExactReadingsFrom: ifaces, laid · FnExactMedianSlope: ifaces, laid · FnExactFitFrom: ifaces, laid.
  DERIVED. THE GIVEN ROWS OF THIS SEAT. 4 by the template 'for every input the law returns true; each argument reads behind the call as it read before'; 0 by the template 'total and deterministic' (their statements: YtbiknpfcemfoeaaDoorTotals.lean).
  GIVEN WITH THE SEED: the statements are not yours to turn. If you find one false, say at which input.
  Laid BY PROGRAM, IN A SANDBOX (cutbox-rows.mjs): the forced cells as the released guide's own fill.sh prints them over the translation 9c1a264655f04c5f… (all of the seat's roots in one cut). By AI agents, Wed Nov 11 2026. No macro, syntax, notation, axiom, sorry.
-/
import Derived.Test.YtbiknpfcemfoeaaDoorChecked
import GoSem.Claim
import GoSem.ClaimJoined
import GoSem.ClaimMapViews
import Derived.JoinedTies
import Derived.KernelRfl
namespace Go.Proofs.YtbiknpfcemfoeaaDoor
/- THE CELL 'sum', in the pinned program and in every row, IS THE sha256 OF THE DUMP (.gsa) THAT YtbiknpfcemfoeaaDoorProg.lean LOADS. Nothing in Lean hashes anything: it is a label: what it is worth is what the hold of that sum in a sandbox is worth. -/
noncomputable def Tryd.pinned : Pinned := { name := "ytbiknpfcemfoeaadoor", sum := "9c1a264655f04c5f50dde665b7cf2f2aa935e93e7d88d3c90333d5b8c8d4af04", checked := Tryd.checked }
namespace Rows
def none {H : Type} : Left H := { results := [], args := [] }

/- WHAT THE LISTED PACKAGE-LEVEL VARIABLES READ AS WHEN THE CALL BEGINS. Each datum BY PROGRAM (the guide's laid-datum.mjs) off the statement by which the dump's own 'gosem.cut.vars' lays the variable. In a bare row this is a premise. The card (YtbiknpfcemfoeaaDoorCards.lean) ties it to the program's text. -/
def laid_loop_example_g01288_impl_errNoTest {H : Type} : DataW H := .iface "*errors.errorString" (.ptr (.agg [.lit (.string [97, 110, 32, 97, 113, 117, 105, 102, 101, 114, 44, 32, 97, 32, 115, 105, 116, 101, 32, 111, 114, 32, 114, 101, 97, 100, 105, 110, 103, 115, 32, 97, 114, 101, 32, 110, 111, 116, 32, 118, 97, 108, 105, 100])]))
def laid_loop_example_g01288_impl_errOutside {H : Type} : DataW H := .iface "*errors.errorString" (.ptr (.agg [.lit (.string [97, 32, 110, 117, 109, 98, 101, 114, 44, 32, 111, 114, 32, 116, 104, 101, 32, 108, 101, 110, 103, 116, 104, 32, 111, 102, 32, 97, 32, 108, 105, 115, 116, 44, 32, 105, 115, 32, 110, 111, 116, 32, 111, 110, 101, 32, 116, 104, 97, 116, 32, 105, 115, 32, 97, 108, 108, 111, 119, 101, 100])]))
def laid_loop_example_g01288_impl_errBadNumber {H : Type} : DataW H := .iface "*errors.errorString" (.ptr (.agg [.lit (.string [97, 32, 110, 117, 109, 98, 101, 114, 32, 116, 104, 97, 116, 32, 119, 111, 117, 108, 100, 32, 98, 101, 32, 114, 101, 116, 117, 114, 110, 101, 100, 32, 105, 115, 32, 110, 111, 116, 32, 111, 110, 101, 32, 116, 104, 97, 116, 32, 109, 97, 121, 32, 98, 101])]))
def laid_loop_example_g01288_impl_errNoText {H : Type} : DataW H := .iface "*errors.errorString" (.ptr (.agg [.lit (.string [97, 32, 116, 101, 120, 116, 32, 105, 115, 32, 110, 111, 116, 32, 116, 104, 97, 116, 32, 111, 102, 32, 114, 101, 97, 100, 105, 110, 103, 115])]))
def laid_loop_example_g01288_impl_errNone {H : Type} : DataW H := .iface "*errors.errorString" (.ptr (.agg [.lit (.string [116, 104, 101, 114, 101, 32, 105, 115, 32, 110, 111, 110, 101, 32, 111, 102, 32, 119, 104, 97, 116, 32, 104, 97, 115, 32, 98, 101, 101, 110, 32, 97, 115, 107, 101, 100, 32, 102, 111, 114])]))

/-- 'laws.FnExactLineThrough': WHATEVER THE INPUT: true; the input reads as it did. -/
def fnExactLineThroughSpec : ChangeSpec := { name := "fnExactLineThrough", vars := ["loop.example/g01288/impl.errNone", "loop.example/g01288/impl.errBadNumber", "loop.example/g01288/impl.errNoTest", "loop.example/g01288/impl.errOutside", "loop.example/g01288/impl.errNoText"], fn := fun _ => fun
  | [d, g1, g2, g3, g4, g5] => { results := [.lit (.bool true)], args := [d], vars := [g1, g2, g3, g4, g5] }
  | _ => none }
def fnExactLineThroughRow : OpenClaim := { program := "ytbiknpfcemfoeaadoor", sum := "9c1a264655f04c5f50dde665b7cf2f2aa935e93e7d88d3c90333d5b8c8d4af04", func := "loop.example/g01288/laws.FnExactLineThrough", spec := "fnExactLineThrough", inPlace := ["math.Float64bits", "math.Float64frombits", "internal/reflectlite.TypeOf"], unfollowed := true, recurses := true, named := ["loop.example/g01288/impl.errNone", "loop.example/g01288/impl.errBadNumber", "loop.example/g01288/impl.errNoTest", "loop.example/g01288/impl.errOutside", "loop.example/g01288/impl.errNoText"], ifaces := true, apart := false, laid := [("loop.example/g01288/impl.errNoTest", laid_loop_example_g01288_impl_errNoTest), ("loop.example/g01288/impl.errOutside", laid_loop_example_g01288_impl_errOutside), ("loop.example/g01288/impl.errBadNumber", laid_loop_example_g01288_impl_errBadNumber), ("loop.example/g01288/impl.errNoText", laid_loop_example_g01288_impl_errNoText), ("loop.example/g01288/impl.errNone", laid_loop_example_g01288_impl_errNone)] }
def FnExactLineThroughSaid : Prop := fnExactLineThroughRow.holds Tryd.pinned (OpenSpec.ofChange fnExactLineThroughSpec)

/-- ITS FALSE NEIGHBOUR: 'it returns false'. Refute it at one input. -/
def fnExactLineThroughWrong : ChangeSpec := { name := "fnExactLineThrough", vars := ["loop.example/g01288/impl.errNone", "loop.example/g01288/impl.errBadNumber", "loop.example/g01288/impl.errNoTest", "loop.example/g01288/impl.errOutside", "loop.example/g01288/impl.errNoText"], fn := fun _ => fun
  | [d, g1, g2, g3, g4, g5] => { results := [.lit (.bool false)], args := [d], vars := [g1, g2, g3, g4, g5] }
  | _ => none }
def FnExactLineThroughWrongFalsely : Prop := fnExactLineThroughRow.holds Tryd.pinned (OpenSpec.ofChange fnExactLineThroughWrong)

/-- 'laws.FnExactReadingsFrom': WHATEVER THE INPUT: true; the input reads as it did. -/
def fnExactReadingsFromSpec : ChangeSpec := { name := "fnExactReadingsFrom", vars := ["loop.example/g01288/impl.errOutside", "loop.example/g01288/impl.errNoTest", "loop.example/g01288/impl.errBadNumber", "loop.example/g01288/impl.errNoText", "loop.example/g01288/impl.errNone"], fn := fun _ => fun
  | [d1, d2, d3, g1, g2, g3, g4, g5] => { results := [.lit (.bool true)], args := [d1, d2, d3], vars := [g1, g2, g3, g4, g5] }
  | _ => none }
def fnExactReadingsFromRow : OpenClaim := { program := "ytbiknpfcemfoeaadoor", sum := "9c1a264655f04c5f50dde665b7cf2f2aa935e93e7d88d3c90333d5b8c8d4af04", func := "loop.example/g01288/laws.FnExactReadingsFrom", spec := "fnExactReadingsFrom", inPlace := ["internal/reflectlite.TypeOf"], unfollowed := true, recurses := true, named := ["loop.example/g01288/impl.errOutside", "loop.example/g01288/impl.errNoTest", "loop.example/g01288/impl.errBadNumber", "loop.example/g01288/impl.errNoText", "loop.example/g01288/impl.errNone"], ifaces := true, apart := false, laid := [("loop.example/g01288/impl.errNoTest", laid_loop_example_g01288_impl_errNoTest), ("loop.example/g01288/impl.errOutside", laid_loop_example_g01288_impl_errOutside), ("loop.example/g01288/impl.errBadNumber", laid_loop_example_g01288_impl_errBadNumber), ("loop.example/g01288/impl.errNoText", laid_loop_example_g01288_impl_errNoText), ("loop.example/g01288/impl.errNone", laid_loop_example_g01288_impl_errNone)] }
def FnExactReadingsFromSaid : Prop := fnExactReadingsFromRow.holds Tryd.pinned (OpenSpec.ofChange fnExactReadingsFromSpec)

/-- ITS FALSE NEIGHBOUR: 'it returns false'. Refute it at one input. -/
def fnExactReadingsFromWrong : ChangeSpec := { name := "fnExactReadingsFrom", vars := ["loop.example/g01288/impl.errOutside", "loop.example/g01288/impl.errNoTest", "loop.example/g01288/impl.errBadNumber", "loop.example/g01288/impl.errNoText", "loop.example/g01288/impl.errNone"], fn := fun _ => fun
  | [d1, d2, d3, g1, g2, g3, g4, g5] => { results := [.lit (.bool false)], args := [d1, d2, d3], vars := [g1, g2, g3, g4, g5] }
  | _ => none }
def FnExactReadingsFromWrongFalsely : Prop := fnExactReadingsFromRow.holds Tryd.pinned (OpenSpec.ofChange fnExactReadingsFromWrong)

/-- 'laws.FnExactMedianSlope': WHATEVER THE INPUT: true; the input reads as it did. -/
def fnExactMedianSlopeSpec : ChangeSpec := { name := "fnExactMedianSlope", vars := ["loop.example/g01288/impl.errNone", "loop.example/g01288/impl.errNoTest", "loop.example/g01288/impl.errOutside", "loop.example/g01288/impl.errBadNumber", "loop.example/g01288/impl.errNoText"], fn := fun _ => fun
  | [d, g1, g2, g3, g4, g5] => { results := [.lit (.bool true)], args := [d], vars := [g1, g2, g3, g4, g5] }
  | _ => none }
def fnExactMedianSlopeRow : OpenClaim := { program := "ytbiknpfcemfoeaadoor", sum := "9c1a264655f04c5f50dde665b7cf2f2aa935e93e7d88d3c90333d5b8c8d4af04", func := "loop.example/g01288/laws.FnExactMedianSlope", spec := "fnExactMedianSlope", inPlace := ["internal/reflectlite.TypeOf"], unfollowed := true, recurses := true, named := ["loop.example/g01288/impl.errNone", "loop.example/g01288/impl.errNoTest", "loop.example/g01288/impl.errOutside", "loop.example/g01288/impl.errBadNumber", "loop.example/g01288/impl.errNoText"], ifaces := true, apart := false, laid := [("loop.example/g01288/impl.errNoTest", laid_loop_example_g01288_impl_errNoTest), ("loop.example/g01288/impl.errOutside", laid_loop_example_g01288_impl_errOutside), ("loop.example/g01288/impl.errBadNumber", laid_loop_example_g01288_impl_errBadNumber), ("loop.example/g01288/impl.errNoText", laid_loop_example_g01288_impl_errNoText), ("loop.example/g01288/impl.errNone", laid_loop_example_g01288_impl_errNone)] }
def FnExactMedianSlopeSaid : Prop := fnExactMedianSlopeRow.holds Tryd.pinned (OpenSpec.ofChange fnExactMedianSlopeSpec)

/-- ITS FALSE NEIGHBOUR: 'it returns false'. Refute it at one input. -/
def fnExactMedianSlopeWrong : ChangeSpec := { name := "fnExactMedianSlope", vars := ["loop.example/g01288/impl.errNone", "loop.example/g01288/impl.errNoTest", "loop.example/g01288/impl.errOutside", "loop.example/g01288/impl.errBadNumber", "loop.example/g01288/impl.errNoText"], fn := fun _ => fun
  | [d, g1, g2, g3, g4, g5] => { results := [.lit (.bool false)], args := [d], vars := [g1, g2, g3, g4, g5] }
  | _ => none }
def FnExactMedianSlopeWrongFalsely : Prop := fnExactMedianSlopeRow.holds Tryd.pinned (OpenSpec.ofChange fnExactMedianSlopeWrong)

/-- 'laws.FnExactFitFrom': WHATEVER THE INPUT: true; the input reads as it did. -/
def fnExactFitFromSpec : ChangeSpec := { name := "fnExactFitFrom", vars := ["loop.example/g01288/impl.errOutside", "loop.example/g01288/impl.errNoTest", "loop.example/g01288/impl.errBadNumber", "loop.example/g01288/impl.errNoText", "loop.example/g01288/impl.errNone"], fn := fun _ => fun
  | [d1, d2, d3, d4, g1, g2, g3, g4, g5] => { results := [.lit (.bool true)], args := [d1, d2, d3, d4], vars := [g1, g2, g3, g4, g5] }
  | _ => none }
def fnExactFitFromRow : OpenClaim := { program := "ytbiknpfcemfoeaadoor", sum := "9c1a264655f04c5f50dde665b7cf2f2aa935e93e7d88d3c90333d5b8c8d4af04", func := "loop.example/g01288/laws.FnExactFitFrom", spec := "fnExactFitFrom", inPlace := ["internal/reflectlite.TypeOf", "math.Float64bits", "math.Float64frombits"], unfollowed := true, recurses := true, named := ["loop.example/g01288/impl.errOutside", "loop.example/g01288/impl.errNoTest", "loop.example/g01288/impl.errBadNumber", "loop.example/g01288/impl.errNoText", "loop.example/g01288/impl.errNone"], ifaces := true, apart := false, laid := [("loop.example/g01288/impl.errNoTest", laid_loop_example_g01288_impl_errNoTest), ("loop.example/g01288/impl.errOutside", laid_loop_example_g01288_impl_errOutside), ("loop.example/g01288/impl.errBadNumber", laid_loop_example_g01288_impl_errBadNumber), ("loop.example/g01288/impl.errNoText", laid_loop_example_g01288_impl_errNoText), ("loop.example/g01288/impl.errNone", laid_loop_example_g01288_impl_errNone)] }
def FnExactFitFromSaid : Prop := fnExactFitFromRow.holds Tryd.pinned (OpenSpec.ofChange fnExactFitFromSpec)

/-- ITS FALSE NEIGHBOUR: 'it returns false'. Refute it at one input. -/
def fnExactFitFromWrong : ChangeSpec := { name := "fnExactFitFrom", vars := ["loop.example/g01288/impl.errOutside", "loop.example/g01288/impl.errNoTest", "loop.example/g01288/impl.errBadNumber", "loop.example/g01288/impl.errNoText", "loop.example/g01288/impl.errNone"], fn := fun _ => fun
  | [d1, d2, d3, d4, g1, g2, g3, g4, g5] => { results := [.lit (.bool false)], args := [d1, d2, d3, d4], vars := [g1, g2, g3, g4, g5] }
  | _ => none }
def FnExactFitFromWrongFalsely : Prop := fnExactFitFromRow.holds Tryd.pinned (OpenSpec.ofChange fnExactFitFromWrong)

/- THE SECOND FORM. 'bulk': how many values and letters a reading holds, each counted each time it is reached (what is shared counts as often as it is met; a slice's spare places count too). A statement '..UptoSaid' is the law's where the arguments, and the package variables that the reading takes, are together of bulk at most 1048576: NARROWER than '..Said'. Prove '..Said' where nothing that the law and all that it calls make is longer than what came in: it says more and counts as full. Else prove '..UptoSaid'. A law counts once. -/
mutual
def uptoBulk {H : Type} : DataW H → Nat
  | .lit (.string bytes) => bytes.length + 1
  | .lit _ => 1
  | .nil => 1
  | .ptr d => uptoBulk d + 1
  | .slice elems spare => uptoBulkAll elems + uptoBulkAll spare + 1
  | .agg parts => uptoBulkAll parts + 1
  | .iface _ d => uptoBulk d + 1
  | .map entries => uptoBulkEntries entries + 1
  | .held _ => 1
def uptoBulkAll {H : Type} : List (DataW H) → Nat
  | [] => 0
  | d :: r => uptoBulk d + uptoBulkAll r
def uptoBulkEntries {H : Type} : List (Lit × DataW H) → Nat
  | [] => 0
  | x :: r => uptoBulkEntry x + uptoBulkEntries r
def uptoBulkEntry {H : Type} : Lit × DataW H → Nat
  | (.string bytes, d) => bytes.length + uptoBulk d + 1
  | (_, d) => uptoBulk d + 1
 end
def uptoSmall : (H : Type) → List (DataW H) → Bool := fun _ ds => decide (uptoBulkAll ds ≤ 1048576)
def OpenSpec.upto (s : _root_.Go.ChangeSpec) : _root_.Go.OpenSpec := { _root_.Go.OpenSpec.ofChange s with cond := some uptoSmall }

/-- 'laws.FnExactLineThrough', WHERE WHAT IT READS IS OF BULK AT MOST 1048576: true; the input reads as it did. -/
def fnExactLineThroughUptoRow : OpenClaim := { program := "ytbiknpfcemfoeaadoor", sum := "9c1a264655f04c5f50dde665b7cf2f2aa935e93e7d88d3c90333d5b8c8d4af04", func := "loop.example/g01288/laws.FnExactLineThrough", spec := "fnExactLineThrough", inPlace := ["math.Float64bits", "math.Float64frombits", "internal/reflectlite.TypeOf"], unfollowed := true, recurses := true, named := ["loop.example/g01288/impl.errNone", "loop.example/g01288/impl.errBadNumber", "loop.example/g01288/impl.errNoTest", "loop.example/g01288/impl.errOutside", "loop.example/g01288/impl.errNoText"], ifaces := true, apart := false, laid := [("loop.example/g01288/impl.errNoTest", laid_loop_example_g01288_impl_errNoTest), ("loop.example/g01288/impl.errOutside", laid_loop_example_g01288_impl_errOutside), ("loop.example/g01288/impl.errBadNumber", laid_loop_example_g01288_impl_errBadNumber), ("loop.example/g01288/impl.errNoText", laid_loop_example_g01288_impl_errNoText), ("loop.example/g01288/impl.errNone", laid_loop_example_g01288_impl_errNone)], narrowed := true }
def FnExactLineThroughUptoSaid : Prop := fnExactLineThroughUptoRow.holds Tryd.pinned (OpenSpec.upto fnExactLineThroughSpec)

/-- 'laws.FnExactReadingsFrom', WHERE WHAT IT READS IS OF BULK AT MOST 1048576: true; the input reads as it did. -/
def fnExactReadingsFromUptoRow : OpenClaim := { program := "ytbiknpfcemfoeaadoor", sum := "9c1a264655f04c5f50dde665b7cf2f2aa935e93e7d88d3c90333d5b8c8d4af04", func := "loop.example/g01288/laws.FnExactReadingsFrom", spec := "fnExactReadingsFrom", inPlace := ["internal/reflectlite.TypeOf"], unfollowed := true, recurses := true, named := ["loop.example/g01288/impl.errOutside", "loop.example/g01288/impl.errNoTest", "loop.example/g01288/impl.errBadNumber", "loop.example/g01288/impl.errNoText", "loop.example/g01288/impl.errNone"], ifaces := true, apart := false, laid := [("loop.example/g01288/impl.errNoTest", laid_loop_example_g01288_impl_errNoTest), ("loop.example/g01288/impl.errOutside", laid_loop_example_g01288_impl_errOutside), ("loop.example/g01288/impl.errBadNumber", laid_loop_example_g01288_impl_errBadNumber), ("loop.example/g01288/impl.errNoText", laid_loop_example_g01288_impl_errNoText), ("loop.example/g01288/impl.errNone", laid_loop_example_g01288_impl_errNone)], narrowed := true }
def FnExactReadingsFromUptoSaid : Prop := fnExactReadingsFromUptoRow.holds Tryd.pinned (OpenSpec.upto fnExactReadingsFromSpec)

/-- 'laws.FnExactMedianSlope', WHERE WHAT IT READS IS OF BULK AT MOST 1048576: true; the input reads as it did. -/
def fnExactMedianSlopeUptoRow : OpenClaim := { program := "ytbiknpfcemfoeaadoor", sum := "9c1a264655f04c5f50dde665b7cf2f2aa935e93e7d88d3c90333d5b8c8d4af04", func := "loop.example/g01288/laws.FnExactMedianSlope", spec := "fnExactMedianSlope", inPlace := ["internal/reflectlite.TypeOf"], unfollowed := true, recurses := true, named := ["loop.example/g01288/impl.errNone", "loop.example/g01288/impl.errNoTest", "loop.example/g01288/impl.errOutside", "loop.example/g01288/impl.errBadNumber", "loop.example/g01288/impl.errNoText"], ifaces := true, apart := false, laid := [("loop.example/g01288/impl.errNoTest", laid_loop_example_g01288_impl_errNoTest), ("loop.example/g01288/impl.errOutside", laid_loop_example_g01288_impl_errOutside), ("loop.example/g01288/impl.errBadNumber", laid_loop_example_g01288_impl_errBadNumber), ("loop.example/g01288/impl.errNoText", laid_loop_example_g01288_impl_errNoText), ("loop.example/g01288/impl.errNone", laid_loop_example_g01288_impl_errNone)], narrowed := true }
def FnExactMedianSlopeUptoSaid : Prop := fnExactMedianSlopeUptoRow.holds Tryd.pinned (OpenSpec.upto fnExactMedianSlopeSpec)

/-- 'laws.FnExactFitFrom', WHERE WHAT IT READS IS OF BULK AT MOST 1048576: true; the input reads as it did. -/
def fnExactFitFromUptoRow : OpenClaim := { program := "ytbiknpfcemfoeaadoor", sum := "9c1a264655f04c5f50dde665b7cf2f2aa935e93e7d88d3c90333d5b8c8d4af04", func := "loop.example/g01288/laws.FnExactFitFrom", spec := "fnExactFitFrom", inPlace := ["internal/reflectlite.TypeOf", "math.Float64bits", "math.Float64frombits"], unfollowed := true, recurses := true, named := ["loop.example/g01288/impl.errOutside", "loop.example/g01288/impl.errNoTest", "loop.example/g01288/impl.errBadNumber", "loop.example/g01288/impl.errNoText", "loop.example/g01288/impl.errNone"], ifaces := true, apart := false, laid := [("loop.example/g01288/impl.errNoTest", laid_loop_example_g01288_impl_errNoTest), ("loop.example/g01288/impl.errOutside", laid_loop_example_g01288_impl_errOutside), ("loop.example/g01288/impl.errBadNumber", laid_loop_example_g01288_impl_errBadNumber), ("loop.example/g01288/impl.errNoText", laid_loop_example_g01288_impl_errNoText), ("loop.example/g01288/impl.errNone", laid_loop_example_g01288_impl_errNone)], narrowed := true }
def FnExactFitFromUptoSaid : Prop := fnExactFitFromUptoRow.holds Tryd.pinned (OpenSpec.upto fnExactFitFromSpec)

end Rows
end Go.Proofs.YtbiknpfcemfoeaaDoor
