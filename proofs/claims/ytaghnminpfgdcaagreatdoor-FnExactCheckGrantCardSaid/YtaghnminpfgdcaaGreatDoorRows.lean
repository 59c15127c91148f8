/-
  NARROWER THAN 'FOR EVERY INPUT', by the rows' own cells (each row's printed sentence says how): FnExactGroundWith: laid · FnExactLevelsWith: laid · FnExactFirstBelow: laid · FnExactAreKept: laid · FnExactGrantInOrder: laid · FnExactCheckGrant: laid · FnExactFewestRefused: laid · FnExactMostWater: laid · FnExactGreatestPercent: laid.
  DERIVED. THE GIVEN ROWS OF THIS SEAT. 9 by the template 'for every input the law returns true; each argument reads behind the call as it read before'; 0 by the template 'total and deterministic' (their statements: YtaghnminpfgdcaaGreatDoorTotals.lean).
  GIVEN WITH THE SEED: the statements are not yours to turn. If you find one false, say at which input.
  Laid BY PROGRAM, IN A SANDBOX (cutbox-rows.mjs): the forced cells as the released guide's own fill.sh prints them over the translation 30d6409e14d3e4ff… (all of the seat's roots in one cut). By AI agents, Wed Nov 11 2026. No macro, syntax, notation, axiom, sorry.
-/
import Derived.Test.YtaghnminpfgdcaaGreatDoorChecked
import GoSem.Claim
import GoSem.ClaimJoined
import GoSem.ClaimMapViews
import Derived.JoinedTies
import Derived.KernelRfl
namespace Go.Proofs.YtaghnminpfgdcaaGreatDoor
/- THE CELL 'sum', in the pinned program and in every row, IS THE sha256 OF THE DUMP (.gsa) THAT YtaghnminpfgdcaaGreatDoorProg.lean LOADS. Nothing in Lean hashes anything: it is a label: what it is worth is what the hold of that sum in a sandbox is worth. -/
noncomputable def Tryz.pinned : Pinned := { name := "ytaghnminpfgdcaagreatdoor", sum := "30d6409e14d3e4ffd885709d6472f997812df44b4c2dd89016ef2b2e3e64a495", checked := Tryz.checked }
namespace Rows
def none {H : Type} : Left H := { results := [], args := [] }

/- WHAT THE LISTED PACKAGE-LEVEL VARIABLES READ AS WHEN THE CALL BEGINS. Each datum BY PROGRAM (the guide's laid-datum.mjs) off the statement by which the dump's own 'gosem.cut.vars' lays the variable. In a bare row this is a premise. The card (YtaghnminpfgdcaaGreatDoorCards.lean) ties it to the program's text. -/
def laid_math_bits_deBruijn64tab {H : Type} : DataW H := .agg [.lit (.int .u8 0), .lit (.int .u8 1), .lit (.int .u8 56), .lit (.int .u8 2), .lit (.int .u8 57), .lit (.int .u8 49), .lit (.int .u8 28), .lit (.int .u8 3), .lit (.int .u8 61), .lit (.int .u8 58), .lit (.int .u8 42), .lit (.int .u8 50), .lit (.int .u8 38), .lit (.int .u8 29), .lit (.int .u8 17), .lit (.int .u8 4), .lit (.int .u8 62), .lit (.int .u8 47), .lit (.int .u8 59), .lit (.int .u8 36), .lit (.int .u8 45), .lit (.int .u8 43), .lit (.int .u8 51), .lit (.int .u8 22), .lit (.int .u8 53), .lit (.int .u8 39), .lit (.int .u8 33), .lit (.int .u8 30), .lit (.int .u8 24), .lit (.int .u8 18), .lit (.int .u8 12), .lit (.int .u8 5), .lit (.int .u8 63), .lit (.int .u8 55), .lit (.int .u8 48), .lit (.int .u8 27), .lit (.int .u8 60), .lit (.int .u8 41), .lit (.int .u8 37), .lit (.int .u8 16), .lit (.int .u8 46), .lit (.int .u8 35), .lit (.int .u8 44), .lit (.int .u8 21), .lit (.int .u8 52), .lit (.int .u8 32), .lit (.int .u8 23), .lit (.int .u8 11), .lit (.int .u8 54), .lit (.int .u8 26), .lit (.int .u8 40), .lit (.int .u8 15), .lit (.int .u8 34), .lit (.int .u8 20), .lit (.int .u8 31), .lit (.int .u8 10), .lit (.int .u8 25), .lit (.int .u8 14), .lit (.int .u8 19), .lit (.int .u8 9), .lit (.int .u8 13), .lit (.int .u8 8), .lit (.int .u8 7), .lit (.int .u8 6)]
def laid_errors_errorType {H : Type} : DataW H := .iface "internal/reflectlite.rtype" (.agg [.ptr (.lit (.string [101, 114, 114, 111, 114]))])

/-- 'laws.FnExactGroundWith': WHATEVER THE INPUT: true; the input reads as it did. -/
def fnExactGroundWithSpec : ChangeSpec := { name := "fnExactGroundWith", fn := fun _ => fun
  | [d1, d2] => { results := [.lit (.bool true)], args := [d1, d2] }
  | _ => none }
def fnExactGroundWithRow : OpenClaim := { program := "ytaghnminpfgdcaagreatdoor", sum := "30d6409e14d3e4ffd885709d6472f997812df44b4c2dd89016ef2b2e3e64a495", func := "loop.example/g01288/laws.FnExactGroundWith", spec := "fnExactGroundWith", inPlace := ["math.Float64bits", "math.Float64frombits", "internal/reflectlite.ValueOf", "(internal/reflectlite.Value).Type", "(internal/reflectlite.Value).IsNil", "internal/reflectlite.TypeOf", "(internal/reflectlite.Value).Elem", "(internal/reflectlite.Value).Set"], unfollowed := true, recurses := true, named := ["math/bits.deBruijn64tab", "errors.errorType"], plainKeys := false, apart := false, laid := [("math/bits.deBruijn64tab", laid_math_bits_deBruijn64tab), ("errors.errorType", laid_errors_errorType)] }
def FnExactGroundWithSaid : Prop := fnExactGroundWithRow.holds Tryz.pinned (OpenSpec.ofChange fnExactGroundWithSpec)

/-- ITS FALSE NEIGHBOUR: 'it returns false'. Refute it at one input. -/
def fnExactGroundWithWrong : ChangeSpec := { name := "fnExactGroundWith", fn := fun _ => fun
  | [d1, d2] => { results := [.lit (.bool false)], args := [d1, d2] }
  | _ => none }
def FnExactGroundWithWrongFalsely : Prop := fnExactGroundWithRow.holds Tryz.pinned (OpenSpec.ofChange fnExactGroundWithWrong)

/-- 'laws.FnExactLevelsWith': WHATEVER THE INPUT: true; the input reads as it did. -/
def fnExactLevelsWithSpec : ChangeSpec := { name := "fnExactLevelsWith", fn := fun _ => fun
  | [d1, d2] => { results := [.lit (.bool true)], args := [d1, d2] }
  | _ => none }
def fnExactLevelsWithRow : OpenClaim := { program := "ytaghnminpfgdcaagreatdoor", sum := "30d6409e14d3e4ffd885709d6472f997812df44b4c2dd89016ef2b2e3e64a495", func := "loop.example/g01288/laws.FnExactLevelsWith", spec := "fnExactLevelsWith", inPlace := ["math.Float64bits", "math.Float64frombits", "internal/reflectlite.ValueOf", "(internal/reflectlite.Value).Type", "(internal/reflectlite.Value).IsNil", "internal/reflectlite.TypeOf", "(internal/reflectlite.Value).Elem", "(internal/reflectlite.Value).Set"], unfollowed := true, recurses := true, named := ["math/bits.deBruijn64tab", "errors.errorType"], plainKeys := false, apart := false, laid := [("math/bits.deBruijn64tab", laid_math_bits_deBruijn64tab), ("errors.errorType", laid_errors_errorType)] }
def FnExactLevelsWithSaid : Prop := fnExactLevelsWithRow.holds Tryz.pinned (OpenSpec.ofChange fnExactLevelsWithSpec)

/-- ITS FALSE NEIGHBOUR: 'it returns false'. Refute it at one input. -/
def fnExactLevelsWithWrong : ChangeSpec := { name := "fnExactLevelsWith", fn := fun _ => fun
  | [d1, d2] => { results := [.lit (.bool false)], args := [d1, d2] }
  | _ => none }
def FnExactLevelsWithWrongFalsely : Prop := fnExactLevelsWithRow.holds Tryz.pinned (OpenSpec.ofChange fnExactLevelsWithWrong)

/-- 'laws.FnExactFirstBelow': WHATEVER THE INPUT: true; the input reads as it did. -/
def fnExactFirstBelowSpec : ChangeSpec := { name := "fnExactFirstBelow", fn := fun _ => fun
  | [d1, d2] => { results := [.lit (.bool true)], args := [d1, d2] }
  | _ => none }
def fnExactFirstBelowRow : OpenClaim := { program := "ytaghnminpfgdcaagreatdoor", sum := "30d6409e14d3e4ffd885709d6472f997812df44b4c2dd89016ef2b2e3e64a495", func := "loop.example/g01288/laws.FnExactFirstBelow", spec := "fnExactFirstBelow", inPlace := ["math.Float64bits", "math.Float64frombits", "internal/reflectlite.ValueOf", "(internal/reflectlite.Value).Type", "(internal/reflectlite.Value).IsNil", "internal/reflectlite.TypeOf", "(internal/reflectlite.Value).Elem", "(internal/reflectlite.Value).Set"], unfollowed := true, recurses := true, named := ["math/bits.deBruijn64tab", "errors.errorType"], plainKeys := false, apart := false, laid := [("math/bits.deBruijn64tab", laid_math_bits_deBruijn64tab), ("errors.errorType", laid_errors_errorType)] }
def FnExactFirstBelowSaid : Prop := fnExactFirstBelowRow.holds Tryz.pinned (OpenSpec.ofChange fnExactFirstBelowSpec)

/-- ITS FALSE NEIGHBOUR: 'it returns false'. Refute it at one input. -/
def fnExactFirstBelowWrong : ChangeSpec := { name := "fnExactFirstBelow", fn := fun _ => fun
  | [d1, d2] => { results := [.lit (.bool false)], args := [d1, d2] }
  | _ => none }
def FnExactFirstBelowWrongFalsely : Prop := fnExactFirstBelowRow.holds Tryz.pinned (OpenSpec.ofChange fnExactFirstBelowWrong)

/-- 'laws.FnExactAreKept': WHATEVER THE INPUT: true; the input reads as it did. -/
def fnExactAreKeptSpec : ChangeSpec := { name := "fnExactAreKept", fn := fun _ => fun
  | [d1, d2] => { results := [.lit (.bool true)], args := [d1, d2] }
  | _ => none }
def fnExactAreKeptRow : OpenClaim := { program := "ytaghnminpfgdcaagreatdoor", sum := "30d6409e14d3e4ffd885709d6472f997812df44b4c2dd89016ef2b2e3e64a495", func := "loop.example/g01288/laws.FnExactAreKept", spec := "fnExactAreKept", inPlace := ["math.Float64bits", "math.Float64frombits"], unfollowed := true, recurses := true, named := ["math/bits.deBruijn64tab"], plainKeys := false, apart := false, laid := [("math/bits.deBruijn64tab", laid_math_bits_deBruijn64tab)] }
def FnExactAreKeptSaid : Prop := fnExactAreKeptRow.holds Tryz.pinned (OpenSpec.ofChange fnExactAreKeptSpec)

/-- ITS FALSE NEIGHBOUR: 'it returns false'. Refute it at one input. -/
def fnExactAreKeptWrong : ChangeSpec := { name := "fnExactAreKept", fn := fun _ => fun
  | [d1, d2] => { results := [.lit (.bool false)], args := [d1, d2] }
  | _ => none }
def FnExactAreKeptWrongFalsely : Prop := fnExactAreKeptRow.holds Tryz.pinned (OpenSpec.ofChange fnExactAreKeptWrong)

/-- 'laws.FnExactGrantInOrder': WHATEVER THE INPUT: true; the input reads as it did. -/
def fnExactGrantInOrderSpec : ChangeSpec := { name := "fnExactGrantInOrder", fn := fun _ => fun
  | [d1, d2] => { results := [.lit (.bool true)], args := [d1, d2] }
  | _ => none }
def fnExactGrantInOrderRow : OpenClaim := { program := "ytaghnminpfgdcaagreatdoor", sum := "30d6409e14d3e4ffd885709d6472f997812df44b4c2dd89016ef2b2e3e64a495", func := "loop.example/g01288/laws.FnExactGrantInOrder", spec := "fnExactGrantInOrder", inPlace := ["math.Float64bits", "math.Float64frombits"], unfollowed := true, recurses := true, named := ["math/bits.deBruijn64tab"], plainKeys := false, apart := false, laid := [("math/bits.deBruijn64tab", laid_math_bits_deBruijn64tab)] }
def FnExactGrantInOrderSaid : Prop := fnExactGrantInOrderRow.holds Tryz.pinned (OpenSpec.ofChange fnExactGrantInOrderSpec)

/-- ITS FALSE NEIGHBOUR: 'it returns false'. Refute it at one input. -/
def fnExactGrantInOrderWrong : ChangeSpec := { name := "fnExactGrantInOrder", fn := fun _ => fun
  | [d1, d2] => { results := [.lit (.bool false)], args := [d1, d2] }
  | _ => none }
def FnExactGrantInOrderWrongFalsely : Prop := fnExactGrantInOrderRow.holds Tryz.pinned (OpenSpec.ofChange fnExactGrantInOrderWrong)

/-- 'laws.FnExactCheckGrant': WHATEVER THE INPUT: true; the input reads as it did. -/
def fnExactCheckGrantSpec : ChangeSpec := { name := "fnExactCheckGrant", fn := fun _ => fun
  | [d1, d2, d3] => { results := [.lit (.bool true)], args := [d1, d2, d3] }
  | _ => none }
def fnExactCheckGrantRow : OpenClaim := { program := "ytaghnminpfgdcaagreatdoor", sum := "30d6409e14d3e4ffd885709d6472f997812df44b4c2dd89016ef2b2e3e64a495", func := "loop.example/g01288/laws.FnExactCheckGrant", spec := "fnExactCheckGrant", inPlace := ["math.Float64bits", "math.Float64frombits"], unfollowed := true, recurses := true, named := ["math/bits.deBruijn64tab"], plainKeys := false, apart := false, laid := [("math/bits.deBruijn64tab", laid_math_bits_deBruijn64tab)] }
def FnExactCheckGrantSaid : Prop := fnExactCheckGrantRow.holds Tryz.pinned (OpenSpec.ofChange fnExactCheckGrantSpec)

/-- ITS FALSE NEIGHBOUR: 'it returns false'. Refute it at one input. -/
def fnExactCheckGrantWrong : ChangeSpec := { name := "fnExactCheckGrant", fn := fun _ => fun
  | [d1, d2, d3] => { results := [.lit (.bool false)], args := [d1, d2, d3] }
  | _ => none }
def FnExactCheckGrantWrongFalsely : Prop := fnExactCheckGrantRow.holds Tryz.pinned (OpenSpec.ofChange fnExactCheckGrantWrong)

/-- 'laws.FnExactFewestRefused': WHATEVER THE INPUT: true; the input reads as it did. -/
def fnExactFewestRefusedSpec : ChangeSpec := { name := "fnExactFewestRefused", fn := fun _ => fun
  | [d1, d2] => { results := [.lit (.bool true)], args := [d1, d2] }
  | _ => none }
def fnExactFewestRefusedRow : OpenClaim := { program := "ytaghnminpfgdcaagreatdoor", sum := "30d6409e14d3e4ffd885709d6472f997812df44b4c2dd89016ef2b2e3e64a495", func := "loop.example/g01288/laws.FnExactFewestRefused", spec := "fnExactFewestRefused", inPlace := ["math.Float64bits", "math.Float64frombits"], unfollowed := true, recurses := true, named := ["math/bits.deBruijn64tab"], plainKeys := false, apart := false, laid := [("math/bits.deBruijn64tab", laid_math_bits_deBruijn64tab)] }
def FnExactFewestRefusedSaid : Prop := fnExactFewestRefusedRow.holds Tryz.pinned (OpenSpec.ofChange fnExactFewestRefusedSpec)

/-- ITS FALSE NEIGHBOUR: 'it returns false'. Refute it at one input. -/
def fnExactFewestRefusedWrong : ChangeSpec := { name := "fnExactFewestRefused", fn := fun _ => fun
  | [d1, d2] => { results := [.lit (.bool false)], args := [d1, d2] }
  | _ => none }
def FnExactFewestRefusedWrongFalsely : Prop := fnExactFewestRefusedRow.holds Tryz.pinned (OpenSpec.ofChange fnExactFewestRefusedWrong)

/-- 'laws.FnExactMostWater': WHATEVER THE INPUT: true; the input reads as it did. -/
def fnExactMostWaterSpec : ChangeSpec := { name := "fnExactMostWater", fn := fun _ => fun
  | [d1, d2] => { results := [.lit (.bool true)], args := [d1, d2] }
  | _ => none }
def fnExactMostWaterRow : OpenClaim := { program := "ytaghnminpfgdcaagreatdoor", sum := "30d6409e14d3e4ffd885709d6472f997812df44b4c2dd89016ef2b2e3e64a495", func := "loop.example/g01288/laws.FnExactMostWater", spec := "fnExactMostWater", inPlace := ["math.Float64bits", "math.Float64frombits"], unfollowed := true, recurses := true, named := ["math/bits.deBruijn64tab"], plainKeys := false, apart := false, laid := [("math/bits.deBruijn64tab", laid_math_bits_deBruijn64tab)] }
def FnExactMostWaterSaid : Prop := fnExactMostWaterRow.holds Tryz.pinned (OpenSpec.ofChange fnExactMostWaterSpec)

/-- ITS FALSE NEIGHBOUR: 'it returns false'. Refute it at one input. -/
def fnExactMostWaterWrong : ChangeSpec := { name := "fnExactMostWater", fn := fun _ => fun
  | [d1, d2] => { results := [.lit (.bool false)], args := [d1, d2] }
  | _ => none }
def FnExactMostWaterWrongFalsely : Prop := fnExactMostWaterRow.holds Tryz.pinned (OpenSpec.ofChange fnExactMostWaterWrong)

/-- 'laws.FnExactGreatestPercent': WHATEVER THE INPUT: true; the input reads as it did. -/
def fnExactGreatestPercentSpec : ChangeSpec := { name := "fnExactGreatestPercent", fn := fun _ => fun
  | [d1, d2] => { results := [.lit (.bool true)], args := [d1, d2] }
  | _ => none }
def fnExactGreatestPercentRow : OpenClaim := { program := "ytaghnminpfgdcaagreatdoor", sum := "30d6409e14d3e4ffd885709d6472f997812df44b4c2dd89016ef2b2e3e64a495", func := "loop.example/g01288/laws.FnExactGreatestPercent", spec := "fnExactGreatestPercent", inPlace := ["math.Float64bits", "math.Float64frombits"], unfollowed := true, recurses := true, named := ["math/bits.deBruijn64tab"], plainKeys := false, apart := false, laid := [("math/bits.deBruijn64tab", laid_math_bits_deBruijn64tab)] }
def FnExactGreatestPercentSaid : Prop := fnExactGreatestPercentRow.holds Tryz.pinned (OpenSpec.ofChange fnExactGreatestPercentSpec)

/-- ITS FALSE NEIGHBOUR: 'it returns false'. Refute it at one input. -/
def fnExactGreatestPercentWrong : ChangeSpec := { name := "fnExactGreatestPercent", fn := fun _ => fun
  | [d1, d2] => { results := [.lit (.bool false)], args := [d1, d2] }
  | _ => none }
def FnExactGreatestPercentWrongFalsely : Prop := fnExactGreatestPercentRow.holds Tryz.pinned (OpenSpec.ofChange fnExactGreatestPercentWrong)

/- THE SECOND FORM. 'bulk': how many values and letters a reading holds, each counted each time it is reached (what is shared counts as often as it is met; a slice's spare places count too). A statement '..UptoSaid' is the law's where the arguments, and the package variables that the reading takes, are together of bulk at most 1048576: NARROWER than '..Said'. Prove '..Said' where nothing that the law and all that it calls make is longer than what came in: it says more and counts as full. Else prove '..UptoSaid'. A law counts once. -/
mutual
def uptoBulk {H : Type} : DataW H → Nat
  | .lit (.string bytes) => bytes.length + 1
  | .lit _ => 1
  | .nil => 1
  | .ptr d => uptoBulk d + 1
  | .slice elems spare => uptoBulkAll elems + uptoBulkAll spare + 1
  | .agg parts => uptoBulkAll parts + 1
  | .iface _ d => uptoBulk d + 1
  | .map entries => uptoBulkEntries entries + 1
  | .held _ => 1
def uptoBulkAll {H : Type} : List (DataW H) → Nat
  | [] => 0
  | d :: r => uptoBulk d + uptoBulkAll r
def uptoBulkEntries {H : Type} : List (Lit × DataW H) → Nat
  | [] => 0
  | x :: r => uptoBulkEntry x + uptoBulkEntries r
def uptoBulkEntry {H : Type} : Lit × DataW H → Nat
  | (.string bytes, d) => bytes.length + uptoBulk d + 1
  | (_, d) => uptoBulk d + 1
 end
def uptoSmall : (H : Type) → List (DataW H) → Bool := fun _ ds => decide (uptoBulkAll ds ≤ 1048576)
def OpenSpec.upto (s : _root_.Go.ChangeSpec) : _root_.Go.OpenSpec := { _root_.Go.OpenSpec.ofChange s with cond := some uptoSmall }

/-- 'laws.FnExactGroundWith', WHERE WHAT IT READS IS OF BULK AT MOST 1048576: true; the input reads as it did. -/
def fnExactGroundWithUptoRow : OpenClaim := { program := "ytaghnminpfgdcaagreatdoor", sum := "30d6409e14d3e4ffd885709d6472f997812df44b4c2dd89016ef2b2e3e64a495", func := "loop.example/g01288/laws.FnExactGroundWith", spec := "fnExactGroundWith", inPlace := ["math.Float64bits", "math.Float64frombits", "internal/reflectlite.ValueOf", "(internal/reflectlite.Value).Type", "(internal/reflectlite.Value).IsNil", "internal/reflectlite.TypeOf", "(internal/reflectlite.Value).Elem", "(internal/reflectlite.Value).Set"], unfollowed := true, recurses := true, named := ["math/bits.deBruijn64tab", "errors.errorType"], plainKeys := false, apart := false, laid := [("math/bits.deBruijn64tab", laid_math_bits_deBruijn64tab), ("errors.errorType", laid_errors_errorType)], narrowed := true }
def FnExactGroundWithUptoSaid : Prop := fnExactGroundWithUptoRow.holds Tryz.pinned (OpenSpec.upto fnExactGroundWithSpec)

/-- 'laws.FnExactLevelsWith', WHERE WHAT IT READS IS OF BULK AT MOST 1048576: true; the input reads as it did. -/
def fnExactLevelsWithUptoRow : OpenClaim := { program := "ytaghnminpfgdcaagreatdoor", sum := "30d6409e14d3e4ffd885709d6472f997812df44b4c2dd89016ef2b2e3e64a495", func := "loop.example/g01288/laws.FnExactLevelsWith", spec := "fnExactLevelsWith", inPlace := ["math.Float64bits", "math.Float64frombits", "internal/reflectlite.ValueOf", "(internal/reflectlite.Value).Type", "(internal/reflectlite.Value).IsNil", "internal/reflectlite.TypeOf", "(internal/reflectlite.Value).Elem", "(internal/reflectlite.Value).Set"], unfollowed := true, recurses := true, named := ["math/bits.deBruijn64tab", "errors.errorType"], plainKeys := false, apart := false, laid := [("math/bits.deBruijn64tab", laid_math_bits_deBruijn64tab), ("errors.errorType", laid_errors_errorType)], narrowed := true }
def FnExactLevelsWithUptoSaid : Prop := fnExactLevelsWithUptoRow.holds Tryz.pinned (OpenSpec.upto fnExactLevelsWithSpec)

/-- 'laws.FnExactFirstBelow', WHERE WHAT IT READS IS OF BULK AT MOST 1048576: true; the input reads as it did. -/
def fnExactFirstBelowUptoRow : OpenClaim := { program := "ytaghnminpfgdcaagreatdoor", sum := "30d6409e14d3e4ffd885709d6472f997812df44b4c2dd89016ef2b2e3e64a495", func := "loop.example/g01288/laws.FnExactFirstBelow", spec := "fnExactFirstBelow", inPlace := ["math.Float64bits", "math.Float64frombits", "internal/reflectlite.ValueOf", "(internal/reflectlite.Value).Type", "(internal/reflectlite.Value).IsNil", "internal/reflectlite.TypeOf", "(internal/reflectlite.Value).Elem", "(internal/reflectlite.Value).Set"], unfollowed := true, recurses := true, named := ["math/bits.deBruijn64tab", "errors.errorType"], plainKeys := false, apart := false, laid := [("math/bits.deBruijn64tab", laid_math_bits_deBruijn64tab), ("errors.errorType", laid_errors_errorType)], narrowed := true }
def FnExactFirstBelowUptoSaid : Prop := fnExactFirstBelowUptoRow.holds Tryz.pinned (OpenSpec.upto fnExactFirstBelowSpec)

/-- 'laws.FnExactAreKept', WHERE WHAT IT READS IS OF BULK AT MOST 1048576: true; the input reads as it did. -/
def fnExactAreKeptUptoRow : OpenClaim := { program := "ytaghnminpfgdcaagreatdoor", sum := "30d6409e14d3e4ffd885709d6472f997812df44b4c2dd89016ef2b2e3e64a495", func := "loop.example/g01288/laws.FnExactAreKept", spec := "fnExactAreKept", inPlace := ["math.Float64bits", "math.Float64frombits"], unfollowed := true, recurses := true, named := ["math/bits.deBruijn64tab"], plainKeys := false, apart := false, laid := [("math/bits.deBruijn64tab", laid_math_bits_deBruijn64tab)], narrowed := true }
def FnExactAreKeptUptoSaid : Prop := fnExactAreKeptUptoRow.holds Tryz.pinned (OpenSpec.upto fnExactAreKeptSpec)

/-- 'laws.FnExactGrantInOrder', WHERE WHAT IT READS IS OF BULK AT MOST 1048576: true; the input reads as it did. -/
def fnExactGrantInOrderUptoRow : OpenClaim := { program := "ytaghnminpfgdcaagreatdoor", sum := "30d6409e14d3e4ffd885709d6472f997812df44b4c2dd89016ef2b2e3e64a495", func := "loop.example/g01288/laws.FnExactGrantInOrder", spec := "fnExactGrantInOrder", inPlace := ["math.Float64bits", "math.Float64frombits"], unfollowed := true, recurses := true, named := ["math/bits.deBruijn64tab"], plainKeys := false, apart := false, laid := [("math/bits.deBruijn64tab", laid_math_bits_deBruijn64tab)], narrowed := true }
def FnExactGrantInOrderUptoSaid : Prop := fnExactGrantInOrderUptoRow.holds Tryz.pinned (OpenSpec.upto fnExactGrantInOrderSpec)

/-- 'laws.FnExactCheckGrant', WHERE WHAT IT READS IS OF BULK AT MOST 1048576: true; the input reads as it did. -/
def fnExactCheckGrantUptoRow : OpenClaim := { program := "ytaghnminpfgdcaagreatdoor", sum := "30d6409e14d3e4ffd885709d6472f997812df44b4c2dd89016ef2b2e3e64a495", func := "loop.example/g01288/laws.FnExactCheckGrant", spec := "fnExactCheckGrant", inPlace := ["math.Float64bits", "math.Float64frombits"], unfollowed := true, recurses := true, named := ["math/bits.deBruijn64tab"], plainKeys := false, apart := false, laid := [("math/bits.deBruijn64tab", laid_math_bits_deBruijn64tab)], narrowed := true }
def FnExactCheckGrantUptoSaid : Prop := fnExactCheckGrantUptoRow.holds Tryz.pinned (OpenSpec.upto fnExactCheckGrantSpec)

/-- 'laws.FnExactFewestRefused', WHERE WHAT IT READS IS OF BULK AT MOST 1048576: true; the input reads as it did. -/
def fnExactFewestRefusedUptoRow : OpenClaim := { program := "ytaghnminpfgdcaagreatdoor", sum := "30d6409e14d3e4ffd885709d6472f997812df44b4c2dd89016ef2b2e3e64a495", func := "loop.example/g01288/laws.FnExactFewestRefused", spec := "fnExactFewestRefused", inPlace := ["math.Float64bits", "math.Float64frombits"], unfollowed := true, recurses := true, named := ["math/bits.deBruijn64tab"], plainKeys := false, apart := false, laid := [("math/bits.deBruijn64tab", laid_math_bits_deBruijn64tab)], narrowed := true }
def FnExactFewestRefusedUptoSaid : Prop := fnExactFewestRefusedUptoRow.holds Tryz.pinned (OpenSpec.upto fnExactFewestRefusedSpec)

/-- 'laws.FnExactMostWater', WHERE WHAT IT READS IS OF BULK AT MOST 1048576: true; the input reads as it did. -/
def fnExactMostWaterUptoRow : OpenClaim := { program := "ytaghnminpfgdcaagreatdoor", sum := "30d6409e14d3e4ffd885709d6472f997812df44b4c2dd89016ef2b2e3e64a495", func := "loop.example/g01288/laws.FnExactMostWater", spec := "fnExactMostWater", inPlace := ["math.Float64bits", "math.Float64frombits"], unfollowed := true, recurses := true, named := ["math/bits.deBruijn64tab"], plainKeys := false, apart := false, laid := [("math/bits.deBruijn64tab", laid_math_bits_deBruijn64tab)], narrowed := true }
def FnExactMostWaterUptoSaid : Prop := fnExactMostWaterUptoRow.holds Tryz.pinned (OpenSpec.upto fnExactMostWaterSpec)

/-- 'laws.FnExactGreatestPercent', WHERE WHAT IT READS IS OF BULK AT MOST 1048576: true; the input reads as it did. -/
def fnExactGreatestPercentUptoRow : OpenClaim := { program := "ytaghnminpfgdcaagreatdoor", sum := "30d6409e14d3e4ffd885709d6472f997812df44b4c2dd89016ef2b2e3e64a495", func := "loop.example/g01288/laws.FnExactGreatestPercent", spec := "fnExactGreatestPercent", inPlace := ["math.Float64bits", "math.Float64frombits"], unfollowed := true, recurses := true, named := ["math/bits.deBruijn64tab"], plainKeys := false, apart := false, laid := [("math/bits.deBruijn64tab", laid_math_bits_deBruijn64tab)], narrowed := true }
def FnExactGreatestPercentUptoSaid : Prop := fnExactGreatestPercentUptoRow.holds Tryz.pinned (OpenSpec.upto fnExactGreatestPercentSpec)

end Rows
end Go.Proofs.YtaghnminpfgdcaaGreatDoor
