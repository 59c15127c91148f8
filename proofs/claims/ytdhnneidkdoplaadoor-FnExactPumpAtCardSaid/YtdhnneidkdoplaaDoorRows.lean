/-
  NARROWER THAN 'FOR EVERY INPUT', by the rows' own cells (each row's printed sentence says how): FnExactWorstBalance: laid · FnExactSettledHead: laid · FnExactLeakOf: laid · FnExactWarmUp: laid · FnExactChangesBetween: laid · FnExactGreatestChange: laid · FnExactIsStill: laid · FnExactStepAtOnce: laid · FnExactSweepInOrder: laid · FnExactSweepColour: laid · FnExactSweepBoth: laid · FnExactRelaxedSweep: laid · FnExactSettleGround: laid · FnExactPumpAt: laid.
  DERIVED. THE GIVEN ROWS OF THIS SEAT. 14 by the template 'for every input the law returns true; each argument reads behind the call as it read before'; 0 by the template 'total and deterministic' (their statements: YtdhnneidkdoplaaDoorTotals.lean).
  GIVEN WITH THE SEED: the statements are not yours to turn. If you find one false, say at which input.
  Laid BY PROGRAM, IN A SANDBOX (cutbox-rows.mjs): the forced cells as the released guide's own fill.sh prints them over the translation 78290b7fc4f6a603… (all of the seat's roots in one cut). By AI agents, Wed Nov 11 2026. No macro, syntax, notation, axiom, sorry.
-/
import Derived.Test.YtdhnneidkdoplaaDoorChecked
import GoSem.Claim
import GoSem.ClaimJoined
import GoSem.ClaimMapViews
import Derived.JoinedTies
import Derived.KernelRfl
namespace Go.Proofs.YtdhnneidkdoplaaDoor
/- THE CELL 'sum', in the pinned program and in every row, IS THE sha256 OF THE DUMP (.gsa) THAT YtdhnneidkdoplaaDoorProg.lean LOADS. Nothing in Lean hashes anything: it is a label: what it is worth is what the hold of that sum in a sandbox is worth. -/
noncomputable def Tryd.pinned : Pinned := { name := "ytdhnneidkdoplaadoor", sum := "78290b7fc4f6a603be08b65a2f97ce1feb563735756166b9c3b3e7beb206740d", checked := Tryd.checked }
namespace Rows
def none {H : Type} : Left H := { results := [], args := [] }

/- WHAT THE LISTED PACKAGE-LEVEL VARIABLES READ AS WHEN THE CALL BEGINS. Each datum BY PROGRAM (the guide's laid-datum.mjs) off the statement by which the dump's own 'gosem.cut.vars' lays the variable. In a bare row this is a premise. The card (YtdhnneidkdoplaaDoorCards.lean) ties it to the program's text. -/
def laid_math_bits_deBruijn64tab {H : Type} : DataW H := .agg [.lit (.int .u8 0), .lit (.int .u8 1), .lit (.int .u8 56), .lit (.int .u8 2), .lit (.int .u8 57), .lit (.int .u8 49), .lit (.int .u8 28), .lit (.int .u8 3), .lit (.int .u8 61), .lit (.int .u8 58), .lit (.int .u8 42), .lit (.int .u8 50), .lit (.int .u8 38), .lit (.int .u8 29), .lit (.int .u8 17), .lit (.int .u8 4), .lit (.int .u8 62), .lit (.int .u8 47), .lit (.int .u8 59), .lit (.int .u8 36), .lit (.int .u8 45), .lit (.int .u8 43), .lit (.int .u8 51), .lit (.int .u8 22), .lit (.int .u8 53), .lit (.int .u8 39), .lit (.int .u8 33), .lit (.int .u8 30), .lit (.int .u8 24), .lit (.int .u8 18), .lit (.int .u8 12), .lit (.int .u8 5), .lit (.int .u8 63), .lit (.int .u8 55), .lit (.int .u8 48), .lit (.int .u8 27), .lit (.int .u8 60), .lit (.int .u8 41), .lit (.int .u8 37), .lit (.int .u8 16), .lit (.int .u8 46), .lit (.int .u8 35), .lit (.int .u8 44), .lit (.int .u8 21), .lit (.int .u8 52), .lit (.int .u8 32), .lit (.int .u8 23), .lit (.int .u8 11), .lit (.int .u8 54), .lit (.int .u8 26), .lit (.int .u8 40), .lit (.int .u8 15), .lit (.int .u8 34), .lit (.int .u8 20), .lit (.int .u8 31), .lit (.int .u8 10), .lit (.int .u8 25), .lit (.int .u8 14), .lit (.int .u8 19), .lit (.int .u8 9), .lit (.int .u8 13), .lit (.int .u8 8), .lit (.int .u8 7), .lit (.int .u8 6)]

/-- 'laws.FnExactWorstBalance': WHATEVER THE INPUT: true; the input reads as it did. -/
def fnExactWorstBalanceSpec : ChangeSpec := { name := "fnExactWorstBalance", fn := fun _ => fun
  | [d] => { results := [.lit (.bool true)], args := [d] }
  | _ => none }
def fnExactWorstBalanceRow : OpenClaim := { program := "ytdhnneidkdoplaadoor", sum := "78290b7fc4f6a603be08b65a2f97ce1feb563735756166b9c3b3e7beb206740d", func := "loop.example/g01288/laws.FnExactWorstBalance", spec := "fnExactWorstBalance", inPlace := ["math.Float64bits", "math.Float64frombits"], unfollowed := true, recurses := true, named := ["math/bits.deBruijn64tab"], apart := false, laid := [("math/bits.deBruijn64tab", laid_math_bits_deBruijn64tab)] }
def FnExactWorstBalanceSaid : Prop := fnExactWorstBalanceRow.holds Tryd.pinned (OpenSpec.ofChange fnExactWorstBalanceSpec)

/-- ITS FALSE NEIGHBOUR: 'it returns false'. Refute it at one input. -/
def fnExactWorstBalanceWrong : ChangeSpec := { name := "fnExactWorstBalance", fn := fun _ => fun
  | [d] => { results := [.lit (.bool false)], args := [d] }
  | _ => none }
def FnExactWorstBalanceWrongFalsely : Prop := fnExactWorstBalanceRow.holds Tryd.pinned (OpenSpec.ofChange fnExactWorstBalanceWrong)

/-- 'laws.FnExactSettledHead': WHATEVER THE INPUT: true; the input reads as it did. -/
def fnExactSettledHeadSpec : ChangeSpec := { name := "fnExactSettledHead", fn := fun _ => fun
  | [d1, d2] => { results := [.lit (.bool true)], args := [d1, d2] }
  | _ => none }
def fnExactSettledHeadRow : OpenClaim := { program := "ytdhnneidkdoplaadoor", sum := "78290b7fc4f6a603be08b65a2f97ce1feb563735756166b9c3b3e7beb206740d", func := "loop.example/g01288/laws.FnExactSettledHead", spec := "fnExactSettledHead", inPlace := ["math.Float64bits", "math.Float64frombits"], unfollowed := true, recurses := true, named := ["math/bits.deBruijn64tab"], apart := false, laid := [("math/bits.deBruijn64tab", laid_math_bits_deBruijn64tab)] }
def FnExactSettledHeadSaid : Prop := fnExactSettledHeadRow.holds Tryd.pinned (OpenSpec.ofChange fnExactSettledHeadSpec)

/-- ITS FALSE NEIGHBOUR: 'it returns false'. Refute it at one input. -/
def fnExactSettledHeadWrong : ChangeSpec := { name := "fnExactSettledHead", fn := fun _ => fun
  | [d1, d2] => { results := [.lit (.bool false)], args := [d1, d2] }
  | _ => none }
def FnExactSettledHeadWrongFalsely : Prop := fnExactSettledHeadRow.holds Tryd.pinned (OpenSpec.ofChange fnExactSettledHeadWrong)

/-- 'laws.FnExactLeakOf': WHATEVER THE INPUT: true; the input reads as it did. -/
def fnExactLeakOfSpec : ChangeSpec := { name := "fnExactLeakOf", fn := fun _ => fun
  | [d] => { results := [.lit (.bool true)], args := [d] }
  | _ => none }
def fnExactLeakOfRow : OpenClaim := { program := "ytdhnneidkdoplaadoor", sum := "78290b7fc4f6a603be08b65a2f97ce1feb563735756166b9c3b3e7beb206740d", func := "loop.example/g01288/laws.FnExactLeakOf", spec := "fnExactLeakOf", inPlace := ["math.Float64bits", "math.Float64frombits"], unfollowed := true, recurses := true, named := ["math/bits.deBruijn64tab"], apart := false, laid := [("math/bits.deBruijn64tab", laid_math_bits_deBruijn64tab)] }
def FnExactLeakOfSaid : Prop := fnExactLeakOfRow.holds Tryd.pinned (OpenSpec.ofChange fnExactLeakOfSpec)

/-- ITS FALSE NEIGHBOUR: 'it returns false'. Refute it at one input. -/
def fnExactLeakOfWrong : ChangeSpec := { name := "fnExactLeakOf", fn := fun _ => fun
  | [d] => { results := [.lit (.bool false)], args := [d] }
  | _ => none }
def FnExactLeakOfWrongFalsely : Prop := fnExactLeakOfRow.holds Tryd.pinned (OpenSpec.ofChange fnExactLeakOfWrong)

/-- 'laws.FnExactWarmUp': WHATEVER THE INPUT: true; the input reads as it did. -/
def fnExactWarmUpSpec : ChangeSpec := { name := "fnExactWarmUp", fn := fun _ => fun
  | [d1, d2] => { results := [.lit (.bool true)], args := [d1, d2] }
  | _ => none }
def fnExactWarmUpRow : OpenClaim := { program := "ytdhnneidkdoplaadoor", sum := "78290b7fc4f6a603be08b65a2f97ce1feb563735756166b9c3b3e7beb206740d", func := "loop.example/g01288/laws.FnExactWarmUp", spec := "fnExactWarmUp", unfollowed := true, recurses := true, named := ["math/bits.deBruijn64tab"], apart := false, laid := [("math/bits.deBruijn64tab", laid_math_bits_deBruijn64tab)] }
def FnExactWarmUpSaid : Prop := fnExactWarmUpRow.holds Tryd.pinned (OpenSpec.ofChange fnExactWarmUpSpec)

/-- ITS FALSE NEIGHBOUR: 'it returns false'. Refute it at one input. -/
def fnExactWarmUpWrong : ChangeSpec := { name := "fnExactWarmUp", fn := fun _ => fun
  | [d1, d2] => { results := [.lit (.bool false)], args := [d1, d2] }
  | _ => none }
def FnExactWarmUpWrongFalsely : Prop := fnExactWarmUpRow.holds Tryd.pinned (OpenSpec.ofChange fnExactWarmUpWrong)

/-- 'laws.FnExactChangesBetween': WHATEVER THE INPUT: true; the input reads as it did. -/
def fnExactChangesBetweenSpec : ChangeSpec := { name := "fnExactChangesBetween", fn := fun _ => fun
  | [d1, d2] => { results := [.lit (.bool true)], args := [d1, d2] }
  | _ => none }
def fnExactChangesBetweenRow : OpenClaim := { program := "ytdhnneidkdoplaadoor", sum := "78290b7fc4f6a603be08b65a2f97ce1feb563735756166b9c3b3e7beb206740d", func := "loop.example/g01288/laws.FnExactChangesBetween", spec := "fnExactChangesBetween", inPlace := ["math.Float64bits", "math.Float64frombits"], unfollowed := true, recurses := true, named := ["math/bits.deBruijn64tab"], apart := false, laid := [("math/bits.deBruijn64tab", laid_math_bits_deBruijn64tab)] }
def FnExactChangesBetweenSaid : Prop := fnExactChangesBetweenRow.holds Tryd.pinned (OpenSpec.ofChange fnExactChangesBetweenSpec)

/-- ITS FALSE NEIGHBOUR: 'it returns false'. Refute it at one input. -/
def fnExactChangesBetweenWrong : ChangeSpec := { name := "fnExactChangesBetween", fn := fun _ => fun
  | [d1, d2] => { results := [.lit (.bool false)], args := [d1, d2] }
  | _ => none }
def FnExactChangesBetweenWrongFalsely : Prop := fnExactChangesBetweenRow.holds Tryd.pinned (OpenSpec.ofChange fnExactChangesBetweenWrong)

/-- 'laws.FnExactGreatestChange': WHATEVER THE INPUT: true; the input reads as it did. -/
def fnExactGreatestChangeSpec : ChangeSpec := { name := "fnExactGreatestChange", fn := fun _ => fun
  | [d1, d2] => { results := [.lit (.bool true)], args := [d1, d2] }
  | _ => none }
def fnExactGreatestChangeRow : OpenClaim := { program := "ytdhnneidkdoplaadoor", sum := "78290b7fc4f6a603be08b65a2f97ce1feb563735756166b9c3b3e7beb206740d", func := "loop.example/g01288/laws.FnExactGreatestChange", spec := "fnExactGreatestChange", inPlace := ["math.Float64bits", "math.Float64frombits"], unfollowed := true, recurses := true, named := ["math/bits.deBruijn64tab"], apart := false, laid := [("math/bits.deBruijn64tab", laid_math_bits_deBruijn64tab)] }
def FnExactGreatestChangeSaid : Prop := fnExactGreatestChangeRow.holds Tryd.pinned (OpenSpec.ofChange fnExactGreatestChangeSpec)

/-- ITS FALSE NEIGHBOUR: 'it returns false'. Refute it at one input. -/
def fnExactGreatestChangeWrong : ChangeSpec := { name := "fnExactGreatestChange", fn := fun _ => fun
  | [d1, d2] => { results := [.lit (.bool false)], args := [d1, d2] }
  | _ => none }
def FnExactGreatestChangeWrongFalsely : Prop := fnExactGreatestChangeRow.holds Tryd.pinned (OpenSpec.ofChange fnExactGreatestChangeWrong)

/-- 'laws.FnExactIsStill': WHATEVER THE INPUT: true; the input reads as it did. -/
def fnExactIsStillSpec : ChangeSpec := { name := "fnExactIsStill", fn := fun _ => fun
  | [d1, d2] => { results := [.lit (.bool true)], args := [d1, d2] }
  | _ => none }
def fnExactIsStillRow : OpenClaim := { program := "ytdhnneidkdoplaadoor", sum := "78290b7fc4f6a603be08b65a2f97ce1feb563735756166b9c3b3e7beb206740d", func := "loop.example/g01288/laws.FnExactIsStill", spec := "fnExactIsStill", inPlace := ["math.Float64bits", "math.Float64frombits"], unfollowed := true, recurses := true, named := ["math/bits.deBruijn64tab"], apart := false, laid := [("math/bits.deBruijn64tab", laid_math_bits_deBruijn64tab)] }
def FnExactIsStillSaid : Prop := fnExactIsStillRow.holds Tryd.pinned (OpenSpec.ofChange fnExactIsStillSpec)

/-- ITS FALSE NEIGHBOUR: 'it returns false'. Refute it at one input. -/
def fnExactIsStillWrong : ChangeSpec := { name := "fnExactIsStill", fn := fun _ => fun
  | [d1, d2] => { results := [.lit (.bool false)], args := [d1, d2] }
  | _ => none }
def FnExactIsStillWrongFalsely : Prop := fnExactIsStillRow.holds Tryd.pinned (OpenSpec.ofChange fnExactIsStillWrong)

/-- 'laws.FnExactStepAtOnce': WHATEVER THE INPUT: true; the input reads as it did. -/
def fnExactStepAtOnceSpec : ChangeSpec := { name := "fnExactStepAtOnce", fn := fun _ => fun
  | [d] => { results := [.lit (.bool true)], args := [d] }
  | _ => none }
def fnExactStepAtOnceRow : OpenClaim := { program := "ytdhnneidkdoplaadoor", sum := "78290b7fc4f6a603be08b65a2f97ce1feb563735756166b9c3b3e7beb206740d", func := "loop.example/g01288/laws.FnExactStepAtOnce", spec := "fnExactStepAtOnce", inPlace := ["math.Float64bits", "math.Float64frombits"], unfollowed := true, recurses := true, named := ["math/bits.deBruijn64tab"], apart := false, laid := [("math/bits.deBruijn64tab", laid_math_bits_deBruijn64tab)] }
def FnExactStepAtOnceSaid : Prop := fnExactStepAtOnceRow.holds Tryd.pinned (OpenSpec.ofChange fnExactStepAtOnceSpec)

/-- ITS FALSE NEIGHBOUR: 'it returns false'. Refute it at one input. -/
def fnExactStepAtOnceWrong : ChangeSpec := { name := "fnExactStepAtOnce", fn := fun _ => fun
  | [d] => { results := [.lit (.bool false)], args := [d] }
  | _ => none }
def FnExactStepAtOnceWrongFalsely : Prop := fnExactStepAtOnceRow.holds Tryd.pinned (OpenSpec.ofChange fnExactStepAtOnceWrong)

/-- 'laws.FnExactSweepInOrder': WHATEVER THE INPUT: true; the input reads as it did. -/
def fnExactSweepInOrderSpec : ChangeSpec := { name := "fnExactSweepInOrder", fn := fun _ => fun
  | [d] => { results := [.lit (.bool true)], args := [d] }
  | _ => none }
def fnExactSweepInOrderRow : OpenClaim := { program := "ytdhnneidkdoplaadoor", sum := "78290b7fc4f6a603be08b65a2f97ce1feb563735756166b9c3b3e7beb206740d", func := "loop.example/g01288/laws.FnExactSweepInOrder", spec := "fnExactSweepInOrder", inPlace := ["math.Float64bits", "math.Float64frombits"], unfollowed := true, recurses := true, named := ["math/bits.deBruijn64tab"], apart := false, laid := [("math/bits.deBruijn64tab", laid_math_bits_deBruijn64tab)] }
def FnExactSweepInOrderSaid : Prop := fnExactSweepInOrderRow.holds Tryd.pinned (OpenSpec.ofChange fnExactSweepInOrderSpec)

/-- ITS FALSE NEIGHBOUR: 'it returns false'. Refute it at one input. -/
def fnExactSweepInOrderWrong : ChangeSpec := { name := "fnExactSweepInOrder", fn := fun _ => fun
  | [d] => { results := [.lit (.bool false)], args := [d] }
  | _ => none }
def FnExactSweepInOrderWrongFalsely : Prop := fnExactSweepInOrderRow.holds Tryd.pinned (OpenSpec.ofChange fnExactSweepInOrderWrong)

/-- 'laws.FnExactSweepColour': WHATEVER THE INPUT: true; the input reads as it did. -/
def fnExactSweepColourSpec : ChangeSpec := { name := "fnExactSweepColour", fn := fun _ => fun
  | [d1, d2] => { results := [.lit (.bool true)], args := [d1, d2] }
  | _ => none }
def fnExactSweepColourRow : OpenClaim := { program := "ytdhnneidkdoplaadoor", sum := "78290b7fc4f6a603be08b65a2f97ce1feb563735756166b9c3b3e7beb206740d", func := "loop.example/g01288/laws.FnExactSweepColour", spec := "fnExactSweepColour", inPlace := ["math.Float64bits", "math.Float64frombits"], unfollowed := true, recurses := true, named := ["math/bits.deBruijn64tab"], apart := false, laid := [("math/bits.deBruijn64tab", laid_math_bits_deBruijn64tab)] }
def FnExactSweepColourSaid : Prop := fnExactSweepColourRow.holds Tryd.pinned (OpenSpec.ofChange fnExactSweepColourSpec)

/-- ITS FALSE NEIGHBOUR: 'it returns false'. Refute it at one input. -/
def fnExactSweepColourWrong : ChangeSpec := { name := "fnExactSweepColour", fn := fun _ => fun
  | [d1, d2] => { results := [.lit (.bool false)], args := [d1, d2] }
  | _ => none }
def FnExactSweepColourWrongFalsely : Prop := fnExactSweepColourRow.holds Tryd.pinned (OpenSpec.ofChange fnExactSweepColourWrong)

/-- 'laws.FnExactSweepBoth': WHATEVER THE INPUT: true; the input reads as it did. -/
def fnExactSweepBothSpec : ChangeSpec := { name := "fnExactSweepBoth", fn := fun _ => fun
  | [d] => { results := [.lit (.bool true)], args := [d] }
  | _ => none }
def fnExactSweepBothRow : OpenClaim := { program := "ytdhnneidkdoplaadoor", sum := "78290b7fc4f6a603be08b65a2f97ce1feb563735756166b9c3b3e7beb206740d", func := "loop.example/g01288/laws.FnExactSweepBoth", spec := "fnExactSweepBoth", inPlace := ["math.Float64bits", "math.Float64frombits"], unfollowed := true, recurses := true, named := ["math/bits.deBruijn64tab"], apart := false, laid := [("math/bits.deBruijn64tab", laid_math_bits_deBruijn64tab)] }
def FnExactSweepBothSaid : Prop := fnExactSweepBothRow.holds Tryd.pinned (OpenSpec.ofChange fnExactSweepBothSpec)

/-- ITS FALSE NEIGHBOUR: 'it returns false'. Refute it at one input. -/
def fnExactSweepBothWrong : ChangeSpec := { name := "fnExactSweepBoth", fn := fun _ => fun
  | [d] => { results := [.lit (.bool false)], args := [d] }
  | _ => none }
def FnExactSweepBothWrongFalsely : Prop := fnExactSweepBothRow.holds Tryd.pinned (OpenSpec.ofChange fnExactSweepBothWrong)

/-- 'laws.FnExactRelaxedSweep': WHATEVER THE INPUT: true; the input reads as it did. -/
def fnExactRelaxedSweepSpec : ChangeSpec := { name := "fnExactRelaxedSweep", fn := fun _ => fun
  | [d1, d2] => { results := [.lit (.bool true)], args := [d1, d2] }
  | _ => none }
def fnExactRelaxedSweepRow : OpenClaim := { program := "ytdhnneidkdoplaadoor", sum := "78290b7fc4f6a603be08b65a2f97ce1feb563735756166b9c3b3e7beb206740d", func := "loop.example/g01288/laws.FnExactRelaxedSweep", spec := "fnExactRelaxedSweep", inPlace := ["math.Float64bits", "math.Float64frombits"], unfollowed := true, recurses := true, named := ["math/bits.deBruijn64tab"], apart := false, laid := [("math/bits.deBruijn64tab", laid_math_bits_deBruijn64tab)] }
def FnExactRelaxedSweepSaid : Prop := fnExactRelaxedSweepRow.holds Tryd.pinned (OpenSpec.ofChange fnExactRelaxedSweepSpec)

/-- ITS FALSE NEIGHBOUR: 'it returns false'. Refute it at one input. -/
def fnExactRelaxedSweepWrong : ChangeSpec := { name := "fnExactRelaxedSweep", fn := fun _ => fun
  | [d1, d2] => { results := [.lit (.bool false)], args := [d1, d2] }
  | _ => none }
def FnExactRelaxedSweepWrongFalsely : Prop := fnExactRelaxedSweepRow.holds Tryd.pinned (OpenSpec.ofChange fnExactRelaxedSweepWrong)

/-- 'laws.FnExactSettleGround': WHATEVER THE INPUT: true; the input reads as it did. -/
def fnExactSettleGroundSpec : ChangeSpec := { name := "fnExactSettleGround", fn := fun _ => fun
  | [d1, d2, d3] => { results := [.lit (.bool true)], args := [d1, d2, d3] }
  | _ => none }
def fnExactSettleGroundRow : OpenClaim := { program := "ytdhnneidkdoplaadoor", sum := "78290b7fc4f6a603be08b65a2f97ce1feb563735756166b9c3b3e7beb206740d", func := "loop.example/g01288/laws.FnExactSettleGround", spec := "fnExactSettleGround", inPlace := ["math.Float64bits", "math.Float64frombits"], unfollowed := true, recurses := true, named := ["math/bits.deBruijn64tab"], apart := false, laid := [("math/bits.deBruijn64tab", laid_math_bits_deBruijn64tab)] }
def FnExactSettleGroundSaid : Prop := fnExactSettleGroundRow.holds Tryd.pinned (OpenSpec.ofChange fnExactSettleGroundSpec)

/-- ITS FALSE NEIGHBOUR: 'it returns false'. Refute it at one input. -/
def fnExactSettleGroundWrong : ChangeSpec := { name := "fnExactSettleGround", fn := fun _ => fun
  | [d1, d2, d3] => { results := [.lit (.bool false)], args := [d1, d2, d3] }
  | _ => none }
def FnExactSettleGroundWrongFalsely : Prop := fnExactSettleGroundRow.holds Tryd.pinned (OpenSpec.ofChange fnExactSettleGroundWrong)

/-- 'laws.FnExactPumpAt': WHATEVER THE INPUT: true; the input reads as it did. -/
def fnExactPumpAtSpec : ChangeSpec := { name := "fnExactPumpAt", fn := fun _ => fun
  | [d1, d2, d3, d4, d5] => { results := [.lit (.bool true)], args := [d1, d2, d3, d4, d5] }
  | _ => none }
def fnExactPumpAtRow : OpenClaim := { program := "ytdhnneidkdoplaadoor", sum := "78290b7fc4f6a603be08b65a2f97ce1feb563735756166b9c3b3e7beb206740d", func := "loop.example/g01288/laws.FnExactPumpAt", spec := "fnExactPumpAt", inPlace := ["math.Float64bits", "math.Float64frombits"], unfollowed := true, recurses := true, named := ["math/bits.deBruijn64tab"], apart := false, laid := [("math/bits.deBruijn64tab", laid_math_bits_deBruijn64tab)] }
def FnExactPumpAtSaid : Prop := fnExactPumpAtRow.holds Tryd.pinned (OpenSpec.ofChange fnExactPumpAtSpec)

/-- ITS FALSE NEIGHBOUR: 'it returns false'. Refute it at one input. -/
def fnExactPumpAtWrong : ChangeSpec := { name := "fnExactPumpAt", fn := fun _ => fun
  | [d1, d2, d3, d4, d5] => { results := [.lit (.bool false)], args := [d1, d2, d3, d4, d5] }
  | _ => none }
def FnExactPumpAtWrongFalsely : Prop := fnExactPumpAtRow.holds Tryd.pinned (OpenSpec.ofChange fnExactPumpAtWrong)

/- THE SECOND FORM. 'bulk': how many values and letters a reading holds, each counted each time it is reached (what is shared counts as often as it is met; a slice's spare places count too). A statement '..UptoSaid' is the law's where the arguments, and the package variables that the reading takes, are together of bulk at most 1048576: NARROWER than '..Said'. Prove '..Said' where nothing that the law and all that it calls make is longer than what came in: it says more and counts as full. Else prove '..UptoSaid'. A law counts once. -/
mutual
def uptoBulk {H : Type} : DataW H → Nat
  | .lit (.string bytes) => bytes.length + 1
  | .lit _ => 1
  | .nil => 1
  | .ptr d => uptoBulk d + 1
  | .slice elems spare => uptoBulkAll elems + uptoBulkAll spare + 1
  | .agg parts => uptoBulkAll parts + 1
  | .iface _ d => uptoBulk d + 1
  | .map entries => uptoBulkEntries entries + 1
  | .held _ => 1
def uptoBulkAll {H : Type} : List (DataW H) → Nat
  | [] => 0
  | d :: r => uptoBulk d + uptoBulkAll r
def uptoBulkEntries {H : Type} : List (Lit × DataW H) → Nat
  | [] => 0
  | x :: r => uptoBulkEntry x + uptoBulkEntries r
def uptoBulkEntry {H : Type} : Lit × DataW H → Nat
  | (.string bytes, d) => bytes.length + uptoBulk d + 1
  | (_, d) => uptoBulk d + 1
 end
def uptoSmall : (H : Type) → List (DataW H) → Bool := fun _ ds => decide (uptoBulkAll ds ≤ 1048576)
def OpenSpec.upto (s : _root_.Go.ChangeSpec) : _root_.Go.OpenSpec := { _root_.Go.OpenSpec.ofChange s with cond := some uptoSmall }

/-- 'laws.FnExactWorstBalance', WHERE WHAT IT READS IS OF BULK AT MOST 1048576: true; the input reads as it did. -/
def fnExactWorstBalanceUptoRow : OpenClaim := { program := "ytdhnneidkdoplaadoor", sum := "78290b7fc4f6a603be08b65a2f97ce1feb563735756166b9c3b3e7beb206740d", func := "loop.example/g01288/laws.FnExactWorstBalance", spec := "fnExactWorstBalance", inPlace := ["math.Float64bits", "math.Float64frombits"], unfollowed := true, recurses := true, named := ["math/bits.deBruijn64tab"], apart := false, laid := [("math/bits.deBruijn64tab", laid_math_bits_deBruijn64tab)], narrowed := true }
def FnExactWorstBalanceUptoSaid : Prop := fnExactWorstBalanceUptoRow.holds Tryd.pinned (OpenSpec.upto fnExactWorstBalanceSpec)

/-- 'laws.FnExactSettledHead', WHERE WHAT IT READS IS OF BULK AT MOST 1048576: true; the input reads as it did. -/
def fnExactSettledHeadUptoRow : OpenClaim := { program := "ytdhnneidkdoplaadoor", sum := "78290b7fc4f6a603be08b65a2f97ce1feb563735756166b9c3b3e7beb206740d", func := "loop.example/g01288/laws.FnExactSettledHead", spec := "fnExactSettledHead", inPlace := ["math.Float64bits", "math.Float64frombits"], unfollowed := true, recurses := true, named := ["math/bits.deBruijn64tab"], apart := false, laid := [("math/bits.deBruijn64tab", laid_math_bits_deBruijn64tab)], narrowed := true }
def FnExactSettledHeadUptoSaid : Prop := fnExactSettledHeadUptoRow.holds Tryd.pinned (OpenSpec.upto fnExactSettledHeadSpec)

/-- 'laws.FnExactLeakOf', WHERE WHAT IT READS IS OF BULK AT MOST 1048576: true; the input reads as it did. -/
def fnExactLeakOfUptoRow : OpenClaim := { program := "ytdhnneidkdoplaadoor", sum := "78290b7fc4f6a603be08b65a2f97ce1feb563735756166b9c3b3e7beb206740d", func := "loop.example/g01288/laws.FnExactLeakOf", spec := "fnExactLeakOf", inPlace := ["math.Float64bits", "math.Float64frombits"], unfollowed := true, recurses := true, named := ["math/bits.deBruijn64tab"], apart := false, laid := [("math/bits.deBruijn64tab", laid_math_bits_deBruijn64tab)], narrowed := true }
def FnExactLeakOfUptoSaid : Prop := fnExactLeakOfUptoRow.holds Tryd.pinned (OpenSpec.upto fnExactLeakOfSpec)

/-- 'laws.FnExactWarmUp', WHERE WHAT IT READS IS OF BULK AT MOST 1048576: true; the input reads as it did. -/
def fnExactWarmUpUptoRow : OpenClaim := { program := "ytdhnneidkdoplaadoor", sum := "78290b7fc4f6a603be08b65a2f97ce1feb563735756166b9c3b3e7beb206740d", func := "loop.example/g01288/laws.FnExactWarmUp", spec := "fnExactWarmUp", unfollowed := true, recurses := true, named := ["math/bits.deBruijn64tab"], apart := false, laid := [("math/bits.deBruijn64tab", laid_math_bits_deBruijn64tab)], narrowed := true }
def FnExactWarmUpUptoSaid : Prop := fnExactWarmUpUptoRow.holds Tryd.pinned (OpenSpec.upto fnExactWarmUpSpec)

/-- 'laws.FnExactChangesBetween', WHERE WHAT IT READS IS OF BULK AT MOST 1048576: true; the input reads as it did. -/
def fnExactChangesBetweenUptoRow : OpenClaim := { program := "ytdhnneidkdoplaadoor", sum := "78290b7fc4f6a603be08b65a2f97ce1feb563735756166b9c3b3e7beb206740d", func := "loop.example/g01288/laws.FnExactChangesBetween", spec := "fnExactChangesBetween", inPlace := ["math.Float64bits", "math.Float64frombits"], unfollowed := true, recurses := true, named := ["math/bits.deBruijn64tab"], apart := false, laid := [("math/bits.deBruijn64tab", laid_math_bits_deBruijn64tab)], narrowed := true }
def FnExactChangesBetweenUptoSaid : Prop := fnExactChangesBetweenUptoRow.holds Tryd.pinned (OpenSpec.upto fnExactChangesBetweenSpec)

/-- 'laws.FnExactGreatestChange', WHERE WHAT IT READS IS OF BULK AT MOST 1048576: true; the input reads as it did. -/
def fnExactGreatestChangeUptoRow : OpenClaim := { program := "ytdhnneidkdoplaadoor", sum := "78290b7fc4f6a603be08b65a2f97ce1feb563735756166b9c3b3e7beb206740d", func := "loop.example/g01288/laws.FnExactGreatestChange", spec := "fnExactGreatestChange", inPlace := ["math.Float64bits", "math.Float64frombits"], unfollowed := true, recurses := true, named := ["math/bits.deBruijn64tab"], apart := false, laid := [("math/bits.deBruijn64tab", laid_math_bits_deBruijn64tab)], narrowed := true }
def FnExactGreatestChangeUptoSaid : Prop := fnExactGreatestChangeUptoRow.holds Tryd.pinned (OpenSpec.upto fnExactGreatestChangeSpec)

/-- 'laws.FnExactIsStill', WHERE WHAT IT READS IS OF BULK AT MOST 1048576: true; the input reads as it did. -/
def fnExactIsStillUptoRow : OpenClaim := { program := "ytdhnneidkdoplaadoor", sum := "78290b7fc4f6a603be08b65a2f97ce1feb563735756166b9c3b3e7beb206740d", func := "loop.example/g01288/laws.FnExactIsStill", spec := "fnExactIsStill", inPlace := ["math.Float64bits", "math.Float64frombits"], unfollowed := true, recurses := true, named := ["math/bits.deBruijn64tab"], apart := false, laid := [("math/bits.deBruijn64tab", laid_math_bits_deBruijn64tab)], narrowed := true }
def FnExactIsStillUptoSaid : Prop := fnExactIsStillUptoRow.holds Tryd.pinned (OpenSpec.upto fnExactIsStillSpec)

/-- 'laws.FnExactStepAtOnce', WHERE WHAT IT READS IS OF BULK AT MOST 1048576: true; the input reads as it did. -/
def fnExactStepAtOnceUptoRow : OpenClaim := { program := "ytdhnneidkdoplaadoor", sum := "78290b7fc4f6a603be08b65a2f97ce1feb563735756166b9c3b3e7beb206740d", func := "loop.example/g01288/laws.FnExactStepAtOnce", spec := "fnExactStepAtOnce", inPlace := ["math.Float64bits", "math.Float64frombits"], unfollowed := true, recurses := true, named := ["math/bits.deBruijn64tab"], apart := false, laid := [("math/bits.deBruijn64tab", laid_math_bits_deBruijn64tab)], narrowed := true }
def FnExactStepAtOnceUptoSaid : Prop := fnExactStepAtOnceUptoRow.holds Tryd.pinned (OpenSpec.upto fnExactStepAtOnceSpec)

/-- 'laws.FnExactSweepInOrder', WHERE WHAT IT READS IS OF BULK AT MOST 1048576: true; the input reads as it did. -/
def fnExactSweepInOrderUptoRow : OpenClaim := { program := "ytdhnneidkdoplaadoor", sum := "78290b7fc4f6a603be08b65a2f97ce1feb563735756166b9c3b3e7beb206740d", func := "loop.example/g01288/laws.FnExactSweepInOrder", spec := "fnExactSweepInOrder", inPlace := ["math.Float64bits", "math.Float64frombits"], unfollowed := true, recurses := true, named := ["math/bits.deBruijn64tab"], apart := false, laid := [("math/bits.deBruijn64tab", laid_math_bits_deBruijn64tab)], narrowed := true }
def FnExactSweepInOrderUptoSaid : Prop := fnExactSweepInOrderUptoRow.holds Tryd.pinned (OpenSpec.upto fnExactSweepInOrderSpec)

/-- 'laws.FnExactSweepColour', WHERE WHAT IT READS IS OF BULK AT MOST 1048576: true; the input reads as it did. -/
def fnExactSweepColourUptoRow : OpenClaim := { program := "ytdhnneidkdoplaadoor", sum := "78290b7fc4f6a603be08b65a2f97ce1feb563735756166b9c3b3e7beb206740d", func := "loop.example/g01288/laws.FnExactSweepColour", spec := "fnExactSweepColour", inPlace := ["math.Float64bits", "math.Float64frombits"], unfollowed := true, recurses := true, named := ["math/bits.deBruijn64tab"], apart := false, laid := [("math/bits.deBruijn64tab", laid_math_bits_deBruijn64tab)], narrowed := true }
def FnExactSweepColourUptoSaid : Prop := fnExactSweepColourUptoRow.holds Tryd.pinned (OpenSpec.upto fnExactSweepColourSpec)

/-- 'laws.FnExactSweepBoth', WHERE WHAT IT READS IS OF BULK AT MOST 1048576: true; the input reads as it did. -/
def fnExactSweepBothUptoRow : OpenClaim := { program := "ytdhnneidkdoplaadoor", sum := "78290b7fc4f6a603be08b65a2f97ce1feb563735756166b9c3b3e7beb206740d", func := "loop.example/g01288/laws.FnExactSweepBoth", spec := "fnExactSweepBoth", inPlace := ["math.Float64bits", "math.Float64frombits"], unfollowed := true, recurses := true, named := ["math/bits.deBruijn64tab"], apart := false, laid := [("math/bits.deBruijn64tab", laid_math_bits_deBruijn64tab)], narrowed := true }
def FnExactSweepBothUptoSaid : Prop := fnExactSweepBothUptoRow.holds Tryd.pinned (OpenSpec.upto fnExactSweepBothSpec)

/-- 'laws.FnExactRelaxedSweep', WHERE WHAT IT READS IS OF BULK AT MOST 1048576: true; the input reads as it did. -/
def fnExactRelaxedSweepUptoRow : OpenClaim := { program := "ytdhnneidkdoplaadoor", sum := "78290b7fc4f6a603be08b65a2f97ce1feb563735756166b9c3b3e7beb206740d", func := "loop.example/g01288/laws.FnExactRelaxedSweep", spec := "fnExactRelaxedSweep", inPlace := ["math.Float64bits", "math.Float64frombits"], unfollowed := true, recurses := true, named := ["math/bits.deBruijn64tab"], apart := false, laid := [("math/bits.deBruijn64tab", laid_math_bits_deBruijn64tab)], narrowed := true }
def FnExactRelaxedSweepUptoSaid : Prop := fnExactRelaxedSweepUptoRow.holds Tryd.pinned (OpenSpec.upto fnExactRelaxedSweepSpec)

/-- 'laws.FnExactSettleGround', WHERE WHAT IT READS IS OF BULK AT MOST 1048576: true; the input reads as it did. -/
def fnExactSettleGroundUptoRow : OpenClaim := { program := "ytdhnneidkdoplaadoor", sum := "78290b7fc4f6a603be08b65a2f97ce1feb563735756166b9c3b3e7beb206740d", func := "loop.example/g01288/laws.FnExactSettleGround", spec := "fnExactSettleGround", inPlace := ["math.Float64bits", "math.Float64frombits"], unfollowed := true, recurses := true, named := ["math/bits.deBruijn64tab"], apart := false, laid := [("math/bits.deBruijn64tab", laid_math_bits_deBruijn64tab)], narrowed := true }
def FnExactSettleGroundUptoSaid : Prop := fnExactSettleGroundUptoRow.holds Tryd.pinned (OpenSpec.upto fnExactSettleGroundSpec)

/-- 'laws.FnExactPumpAt', WHERE WHAT IT READS IS OF BULK AT MOST 1048576: true; the input reads as it did. -/
def fnExactPumpAtUptoRow : OpenClaim := { program := "ytdhnneidkdoplaadoor", sum := "78290b7fc4f6a603be08b65a2f97ce1feb563735756166b9c3b3e7beb206740d", func := "loop.example/g01288/laws.FnExactPumpAt", spec := "fnExactPumpAt", inPlace := ["math.Float64bits", "math.Float64frombits"], unfollowed := true, recurses := true, named := ["math/bits.deBruijn64tab"], apart := false, laid := [("math/bits.deBruijn64tab", laid_math_bits_deBruijn64tab)], narrowed := true }
def FnExactPumpAtUptoSaid : Prop := fnExactPumpAtUptoRow.holds Tryd.pinned (OpenSpec.upto fnExactPumpAtSpec)

end Rows
end Go.Proofs.YtdhnneidkdoplaaDoor
