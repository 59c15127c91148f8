/-
  NARROWER THAN 'FOR EVERY INPUT', by the rows' own cells (each row's printed sentence says how): FnExactValidGround: laid · FnExactEvenGround: laid · FnExactValidBrine: laid · FnExactGoesOut: laid · FnExactComesIn: laid · FnExactSafeStep: laid · FnExactIsSmallStep: laid · FnExactSaltIn: laid · FnExactFrontOf: laid · FnExactDecaySalt: laid · FnExactSaltiestCell: laid · FnExactReverseBrine: laid · FnExactMixBrines: laid.
  DERIVED. THE GIVEN ROWS OF THIS SEAT. 13 by the template 'for every input the law returns true; each argument reads behind the call as it read before'; 0 by the template 'total and deterministic' (their statements: YtjmekgogaiokpaaDoorTotals.lean).
  GIVEN WITH THE SEED: the statements are not yours to turn. If you find one false, say at which input.
  Laid BY PROGRAM, IN A SANDBOX (cutbox-rows.mjs): the forced cells as the released guide's own fill.sh prints them over the translation b796fb19d0173509… (all of the seat's roots in one cut). By AI agents, Wed Nov 11 2026. No macro, syntax, notation, axiom, sorry.
-/
import Derived.Test.YtjmekgogaiokpaaDoorChecked
import GoSem.Claim
import GoSem.ClaimJoined
import GoSem.ClaimMapViews
import Derived.JoinedTies
import Derived.KernelRfl
namespace Go.Proofs.YtjmekgogaiokpaaDoor
/- THE CELL 'sum', in the pinned program and in every row, IS THE sha256 OF THE DUMP (.gsa) THAT YtjmekgogaiokpaaDoorProg.lean LOADS. Nothing in Lean hashes anything: it is a label: what it is worth is what the hold of that sum in a sandbox is worth. -/
noncomputable def Tryd.pinned : Pinned := { name := "ytjmekgogaiokpaadoor", sum := "b796fb19d0173509943cf68f2361d93173883e7d420f95baf9b10f8a0dedcad6", checked := Tryd.checked }
namespace Rows
def none {H : Type} : Left H := { results := [], args := [] }

/- WHAT THE LISTED PACKAGE-LEVEL VARIABLES READ AS WHEN THE CALL BEGINS. Each datum BY PROGRAM (the guide's laid-datum.mjs) off the statement by which the dump's own 'gosem.cut.vars' lays the variable. In a bare row this is a premise. The card (YtjmekgogaiokpaaDoorCards.lean) ties it to the program's text. -/
def laid_math_bits_deBruijn64tab {H : Type} : DataW H := .agg [.lit (.int .u8 0), .lit (.int .u8 1), .lit (.int .u8 56), .lit (.int .u8 2), .lit (.int .u8 57), .lit (.int .u8 49), .lit (.int .u8 28), .lit (.int .u8 3), .lit (.int .u8 61), .lit (.int .u8 58), .lit (.int .u8 42), .lit (.int .u8 50), .lit (.int .u8 38), .lit (.int .u8 29), .lit (.int .u8 17), .lit (.int .u8 4), .lit (.int .u8 62), .lit (.int .u8 47), .lit (.int .u8 59), .lit (.int .u8 36), .lit (.int .u8 45), .lit (.int .u8 43), .lit (.int .u8 51), .lit (.int .u8 22), .lit (.int .u8 53), .lit (.int .u8 39), .lit (.int .u8 33), .lit (.int .u8 30), .lit (.int .u8 24), .lit (.int .u8 18), .lit (.int .u8 12), .lit (.int .u8 5), .lit (.int .u8 63), .lit (.int .u8 55), .lit (.int .u8 48), .lit (.int .u8 27), .lit (.int .u8 60), .lit (.int .u8 41), .lit (.int .u8 37), .lit (.int .u8 16), .lit (.int .u8 46), .lit (.int .u8 35), .lit (.int .u8 44), .lit (.int .u8 21), .lit (.int .u8 52), .lit (.int .u8 32), .lit (.int .u8 23), .lit (.int .u8 11), .lit (.int .u8 54), .lit (.int .u8 26), .lit (.int .u8 40), .lit (.int .u8 15), .lit (.int .u8 34), .lit (.int .u8 20), .lit (.int .u8 31), .lit (.int .u8 10), .lit (.int .u8 25), .lit (.int .u8 14), .lit (.int .u8 19), .lit (.int .u8 9), .lit (.int .u8 13), .lit (.int .u8 8), .lit (.int .u8 7), .lit (.int .u8 6)]

/-- 'laws.FnExactValidGround': WHATEVER THE INPUT: true; the input reads as it did. -/
def fnExactValidGroundSpec : ChangeSpec := { name := "fnExactValidGround", fn := fun _ => fun
  | [d] => { results := [.lit (.bool true)], args := [d] }
  | _ => none }
def fnExactValidGroundRow : OpenClaim := { program := "ytjmekgogaiokpaadoor", sum := "b796fb19d0173509943cf68f2361d93173883e7d420f95baf9b10f8a0dedcad6", func := "loop.example/g01288/laws.FnExactValidGround", spec := "fnExactValidGround", unfollowed := true, recurses := true, named := ["math/bits.deBruijn64tab"], apart := false, laid := [("math/bits.deBruijn64tab", laid_math_bits_deBruijn64tab)] }
def FnExactValidGroundSaid : Prop := fnExactValidGroundRow.holds Tryd.pinned (OpenSpec.ofChange fnExactValidGroundSpec)

/-- ITS FALSE NEIGHBOUR: 'it returns false'. Refute it at one input. -/
def fnExactValidGroundWrong : ChangeSpec := { name := "fnExactValidGround", fn := fun _ => fun
  | [d] => { results := [.lit (.bool false)], args := [d] }
  | _ => none }
def FnExactValidGroundWrongFalsely : Prop := fnExactValidGroundRow.holds Tryd.pinned (OpenSpec.ofChange fnExactValidGroundWrong)

/-- 'laws.FnExactEvenGround': WHATEVER THE INPUT: true; the input reads as it did. -/
def fnExactEvenGroundSpec : ChangeSpec := { name := "fnExactEvenGround", fn := fun _ => fun
  | [d1, d2, d3, d4] => { results := [.lit (.bool true)], args := [d1, d2, d3, d4] }
  | _ => none }
def fnExactEvenGroundRow : OpenClaim := { program := "ytjmekgogaiokpaadoor", sum := "b796fb19d0173509943cf68f2361d93173883e7d420f95baf9b10f8a0dedcad6", func := "loop.example/g01288/laws.FnExactEvenGround", spec := "fnExactEvenGround", unfollowed := true, recurses := true, named := ["math/bits.deBruijn64tab"], apart := false, laid := [("math/bits.deBruijn64tab", laid_math_bits_deBruijn64tab)] }
def FnExactEvenGroundSaid : Prop := fnExactEvenGroundRow.holds Tryd.pinned (OpenSpec.ofChange fnExactEvenGroundSpec)

/-- ITS FALSE NEIGHBOUR: 'it returns false'. Refute it at one input. -/
def fnExactEvenGroundWrong : ChangeSpec := { name := "fnExactEvenGround", fn := fun _ => fun
  | [d1, d2, d3, d4] => { results := [.lit (.bool false)], args := [d1, d2, d3, d4] }
  | _ => none }
def FnExactEvenGroundWrongFalsely : Prop := fnExactEvenGroundRow.holds Tryd.pinned (OpenSpec.ofChange fnExactEvenGroundWrong)

/-- 'laws.FnExactValidBrine': WHATEVER THE INPUT: true; the input reads as it did. -/
def fnExactValidBrineSpec : ChangeSpec := { name := "fnExactValidBrine", fn := fun _ => fun
  | [d] => { results := [.lit (.bool true)], args := [d] }
  | _ => none }
def fnExactValidBrineRow : OpenClaim := { program := "ytjmekgogaiokpaadoor", sum := "b796fb19d0173509943cf68f2361d93173883e7d420f95baf9b10f8a0dedcad6", func := "loop.example/g01288/laws.FnExactValidBrine", spec := "fnExactValidBrine", inPlace := ["math.Float64bits", "math.Float64frombits"], unfollowed := true, recurses := true, named := ["math/bits.deBruijn64tab"], apart := false, laid := [("math/bits.deBruijn64tab", laid_math_bits_deBruijn64tab)] }
def FnExactValidBrineSaid : Prop := fnExactValidBrineRow.holds Tryd.pinned (OpenSpec.ofChange fnExactValidBrineSpec)

/-- ITS FALSE NEIGHBOUR: 'it returns false'. Refute it at one input. -/
def fnExactValidBrineWrong : ChangeSpec := { name := "fnExactValidBrine", fn := fun _ => fun
  | [d] => { results := [.lit (.bool false)], args := [d] }
  | _ => none }
def FnExactValidBrineWrongFalsely : Prop := fnExactValidBrineRow.holds Tryd.pinned (OpenSpec.ofChange fnExactValidBrineWrong)

/-- 'laws.FnExactGoesOut': WHATEVER THE INPUT: true; the input reads as it did. -/
def fnExactGoesOutSpec : ChangeSpec := { name := "fnExactGoesOut", fn := fun _ => fun
  | [d1, d2] => { results := [.lit (.bool true)], args := [d1, d2] }
  | _ => none }
def fnExactGoesOutRow : OpenClaim := { program := "ytjmekgogaiokpaadoor", sum := "b796fb19d0173509943cf68f2361d93173883e7d420f95baf9b10f8a0dedcad6", func := "loop.example/g01288/laws.FnExactGoesOut", spec := "fnExactGoesOut", inPlace := ["math.Float64bits", "math.Float64frombits"], unfollowed := true, recurses := true, named := ["math/bits.deBruijn64tab"], apart := false, laid := [("math/bits.deBruijn64tab", laid_math_bits_deBruijn64tab)] }
def FnExactGoesOutSaid : Prop := fnExactGoesOutRow.holds Tryd.pinned (OpenSpec.ofChange fnExactGoesOutSpec)

/-- ITS FALSE NEIGHBOUR: 'it returns false'. Refute it at one input. -/
def fnExactGoesOutWrong : ChangeSpec := { name := "fnExactGoesOut", fn := fun _ => fun
  | [d1, d2] => { results := [.lit (.bool false)], args := [d1, d2] }
  | _ => none }
def FnExactGoesOutWrongFalsely : Prop := fnExactGoesOutRow.holds Tryd.pinned (OpenSpec.ofChange fnExactGoesOutWrong)

/-- 'laws.FnExactComesIn': WHATEVER THE INPUT: true; the input reads as it did. -/
def fnExactComesInSpec : ChangeSpec := { name := "fnExactComesIn", fn := fun _ => fun
  | [d1, d2] => { results := [.lit (.bool true)], args := [d1, d2] }
  | _ => none }
def fnExactComesInRow : OpenClaim := { program := "ytjmekgogaiokpaadoor", sum := "b796fb19d0173509943cf68f2361d93173883e7d420f95baf9b10f8a0dedcad6", func := "loop.example/g01288/laws.FnExactComesIn", spec := "fnExactComesIn", inPlace := ["math.Float64bits", "math.Float64frombits"], unfollowed := true, recurses := true, named := ["math/bits.deBruijn64tab"], apart := false, laid := [("math/bits.deBruijn64tab", laid_math_bits_deBruijn64tab)] }
def FnExactComesInSaid : Prop := fnExactComesInRow.holds Tryd.pinned (OpenSpec.ofChange fnExactComesInSpec)

/-- ITS FALSE NEIGHBOUR: 'it returns false'. Refute it at one input. -/
def fnExactComesInWrong : ChangeSpec := { name := "fnExactComesIn", fn := fun _ => fun
  | [d1, d2] => { results := [.lit (.bool false)], args := [d1, d2] }
  | _ => none }
def FnExactComesInWrongFalsely : Prop := fnExactComesInRow.holds Tryd.pinned (OpenSpec.ofChange fnExactComesInWrong)

/-- 'laws.FnExactSafeStep': WHATEVER THE INPUT: true; the input reads as it did. -/
def fnExactSafeStepSpec : ChangeSpec := { name := "fnExactSafeStep", fn := fun _ => fun
  | [d] => { results := [.lit (.bool true)], args := [d] }
  | _ => none }
def fnExactSafeStepRow : OpenClaim := { program := "ytjmekgogaiokpaadoor", sum := "b796fb19d0173509943cf68f2361d93173883e7d420f95baf9b10f8a0dedcad6", func := "loop.example/g01288/laws.FnExactSafeStep", spec := "fnExactSafeStep", inPlace := ["math.Float64bits", "math.Float64frombits"], unfollowed := true, recurses := true, named := ["math/bits.deBruijn64tab"], apart := false, laid := [("math/bits.deBruijn64tab", laid_math_bits_deBruijn64tab)] }
def FnExactSafeStepSaid : Prop := fnExactSafeStepRow.holds Tryd.pinned (OpenSpec.ofChange fnExactSafeStepSpec)

/-- ITS FALSE NEIGHBOUR: 'it returns false'. Refute it at one input. -/
def fnExactSafeStepWrong : ChangeSpec := { name := "fnExactSafeStep", fn := fun _ => fun
  | [d] => { results := [.lit (.bool false)], args := [d] }
  | _ => none }
def FnExactSafeStepWrongFalsely : Prop := fnExactSafeStepRow.holds Tryd.pinned (OpenSpec.ofChange fnExactSafeStepWrong)

/-- 'laws.FnExactIsSmallStep': WHATEVER THE INPUT: true; the input reads as it did. -/
def fnExactIsSmallStepSpec : ChangeSpec := { name := "fnExactIsSmallStep", fn := fun _ => fun
  | [d1, d2] => { results := [.lit (.bool true)], args := [d1, d2] }
  | _ => none }
def fnExactIsSmallStepRow : OpenClaim := { program := "ytjmekgogaiokpaadoor", sum := "b796fb19d0173509943cf68f2361d93173883e7d420f95baf9b10f8a0dedcad6", func := "loop.example/g01288/laws.FnExactIsSmallStep", spec := "fnExactIsSmallStep", inPlace := ["math.Float64bits", "math.Float64frombits"], unfollowed := true, recurses := true, named := ["math/bits.deBruijn64tab"], apart := false, laid := [("math/bits.deBruijn64tab", laid_math_bits_deBruijn64tab)] }
def FnExactIsSmallStepSaid : Prop := fnExactIsSmallStepRow.holds Tryd.pinned (OpenSpec.ofChange fnExactIsSmallStepSpec)

/-- ITS FALSE NEIGHBOUR: 'it returns false'. Refute it at one input. -/
def fnExactIsSmallStepWrong : ChangeSpec := { name := "fnExactIsSmallStep", fn := fun _ => fun
  | [d1, d2] => { results := [.lit (.bool false)], args := [d1, d2] }
  | _ => none }
def FnExactIsSmallStepWrongFalsely : Prop := fnExactIsSmallStepRow.holds Tryd.pinned (OpenSpec.ofChange fnExactIsSmallStepWrong)

/-- 'laws.FnExactSaltIn': WHATEVER THE INPUT: true; the input reads as it did. -/
def fnExactSaltInSpec : ChangeSpec := { name := "fnExactSaltIn", fn := fun _ => fun
  | [d] => { results := [.lit (.bool true)], args := [d] }
  | _ => none }
def fnExactSaltInRow : OpenClaim := { program := "ytjmekgogaiokpaadoor", sum := "b796fb19d0173509943cf68f2361d93173883e7d420f95baf9b10f8a0dedcad6", func := "loop.example/g01288/laws.FnExactSaltIn", spec := "fnExactSaltIn", inPlace := ["math.Float64bits", "math.Float64frombits"], unfollowed := true, recurses := true, named := ["math/bits.deBruijn64tab"], apart := false, laid := [("math/bits.deBruijn64tab", laid_math_bits_deBruijn64tab)] }
def FnExactSaltInSaid : Prop := fnExactSaltInRow.holds Tryd.pinned (OpenSpec.ofChange fnExactSaltInSpec)

/-- ITS FALSE NEIGHBOUR: 'it returns false'. Refute it at one input. -/
def fnExactSaltInWrong : ChangeSpec := { name := "fnExactSaltIn", fn := fun _ => fun
  | [d] => { results := [.lit (.bool false)], args := [d] }
  | _ => none }
def FnExactSaltInWrongFalsely : Prop := fnExactSaltInRow.holds Tryd.pinned (OpenSpec.ofChange fnExactSaltInWrong)

/-- 'laws.FnExactFrontOf': WHATEVER THE INPUT: true; the input reads as it did. -/
def fnExactFrontOfSpec : ChangeSpec := { name := "fnExactFrontOf", fn := fun _ => fun
  | [d1, d2] => { results := [.lit (.bool true)], args := [d1, d2] }
  | _ => none }
def fnExactFrontOfRow : OpenClaim := { program := "ytjmekgogaiokpaadoor", sum := "b796fb19d0173509943cf68f2361d93173883e7d420f95baf9b10f8a0dedcad6", func := "loop.example/g01288/laws.FnExactFrontOf", spec := "fnExactFrontOf", inPlace := ["math.Float64bits", "math.Float64frombits"], unfollowed := true, recurses := true, named := ["math/bits.deBruijn64tab"], apart := false, laid := [("math/bits.deBruijn64tab", laid_math_bits_deBruijn64tab)] }
def FnExactFrontOfSaid : Prop := fnExactFrontOfRow.holds Tryd.pinned (OpenSpec.ofChange fnExactFrontOfSpec)

/-- ITS FALSE NEIGHBOUR: 'it returns false'. Refute it at one input. -/
def fnExactFrontOfWrong : ChangeSpec := { name := "fnExactFrontOf", fn := fun _ => fun
  | [d1, d2] => { results := [.lit (.bool false)], args := [d1, d2] }
  | _ => none }
def FnExactFrontOfWrongFalsely : Prop := fnExactFrontOfRow.holds Tryd.pinned (OpenSpec.ofChange fnExactFrontOfWrong)

/-- 'laws.FnExactDecaySalt': WHATEVER THE INPUT: true; the input reads as it did. -/
def fnExactDecaySaltSpec : ChangeSpec := { name := "fnExactDecaySalt", fn := fun _ => fun
  | [d1, d2, d3] => { results := [.lit (.bool true)], args := [d1, d2, d3] }
  | _ => none }
def fnExactDecaySaltRow : OpenClaim := { program := "ytjmekgogaiokpaadoor", sum := "b796fb19d0173509943cf68f2361d93173883e7d420f95baf9b10f8a0dedcad6", func := "loop.example/g01288/laws.FnExactDecaySalt", spec := "fnExactDecaySalt", inPlace := ["math.Float64bits", "math.Float64frombits"], unfollowed := true, recurses := true, named := ["math/bits.deBruijn64tab"], apart := false, laid := [("math/bits.deBruijn64tab", laid_math_bits_deBruijn64tab)] }
def FnExactDecaySaltSaid : Prop := fnExactDecaySaltRow.holds Tryd.pinned (OpenSpec.ofChange fnExactDecaySaltSpec)

/-- ITS FALSE NEIGHBOUR: 'it returns false'. Refute it at one input. -/
def fnExactDecaySaltWrong : ChangeSpec := { name := "fnExactDecaySalt", fn := fun _ => fun
  | [d1, d2, d3] => { results := [.lit (.bool false)], args := [d1, d2, d3] }
  | _ => none }
def FnExactDecaySaltWrongFalsely : Prop := fnExactDecaySaltRow.holds Tryd.pinned (OpenSpec.ofChange fnExactDecaySaltWrong)

/-- 'laws.FnExactSaltiestCell': WHATEVER THE INPUT: true; the input reads as it did. -/
def fnExactSaltiestCellSpec : ChangeSpec := { name := "fnExactSaltiestCell", fn := fun _ => fun
  | [d] => { results := [.lit (.bool true)], args := [d] }
  | _ => none }
def fnExactSaltiestCellRow : OpenClaim := { program := "ytjmekgogaiokpaadoor", sum := "b796fb19d0173509943cf68f2361d93173883e7d420f95baf9b10f8a0dedcad6", func := "loop.example/g01288/laws.FnExactSaltiestCell", spec := "fnExactSaltiestCell", inPlace := ["math.Float64bits", "math.Float64frombits"], unfollowed := true, recurses := true, named := ["math/bits.deBruijn64tab"], apart := false, laid := [("math/bits.deBruijn64tab", laid_math_bits_deBruijn64tab)] }
def FnExactSaltiestCellSaid : Prop := fnExactSaltiestCellRow.holds Tryd.pinned (OpenSpec.ofChange fnExactSaltiestCellSpec)

/-- ITS FALSE NEIGHBOUR: 'it returns false'. Refute it at one input. -/
def fnExactSaltiestCellWrong : ChangeSpec := { name := "fnExactSaltiestCell", fn := fun _ => fun
  | [d] => { results := [.lit (.bool false)], args := [d] }
  | _ => none }
def FnExactSaltiestCellWrongFalsely : Prop := fnExactSaltiestCellRow.holds Tryd.pinned (OpenSpec.ofChange fnExactSaltiestCellWrong)

/-- 'laws.FnExactReverseBrine': WHATEVER THE INPUT: true; the input reads as it did. -/
def fnExactReverseBrineSpec : ChangeSpec := { name := "fnExactReverseBrine", fn := fun _ => fun
  | [d] => { results := [.lit (.bool true)], args := [d] }
  | _ => none }
def fnExactReverseBrineRow : OpenClaim := { program := "ytjmekgogaiokpaadoor", sum := "b796fb19d0173509943cf68f2361d93173883e7d420f95baf9b10f8a0dedcad6", func := "loop.example/g01288/laws.FnExactReverseBrine", spec := "fnExactReverseBrine", inPlace := ["math.Float64bits", "math.Float64frombits"], unfollowed := true, recurses := true, named := ["math/bits.deBruijn64tab"], apart := false, laid := [("math/bits.deBruijn64tab", laid_math_bits_deBruijn64tab)] }
def FnExactReverseBrineSaid : Prop := fnExactReverseBrineRow.holds Tryd.pinned (OpenSpec.ofChange fnExactReverseBrineSpec)

/-- ITS FALSE NEIGHBOUR: 'it returns false'. Refute it at one input. -/
def fnExactReverseBrineWrong : ChangeSpec := { name := "fnExactReverseBrine", fn := fun _ => fun
  | [d] => { results := [.lit (.bool false)], args := [d] }
  | _ => none }
def FnExactReverseBrineWrongFalsely : Prop := fnExactReverseBrineRow.holds Tryd.pinned (OpenSpec.ofChange fnExactReverseBrineWrong)

/-- 'laws.FnExactMixBrines': WHATEVER THE INPUT: true; the input reads as it did. -/
def fnExactMixBrinesSpec : ChangeSpec := { name := "fnExactMixBrines", fn := fun _ => fun
  | [d1, d2, d3] => { results := [.lit (.bool true)], args := [d1, d2, d3] }
  | _ => none }
def fnExactMixBrinesRow : OpenClaim := { program := "ytjmekgogaiokpaadoor", sum := "b796fb19d0173509943cf68f2361d93173883e7d420f95baf9b10f8a0dedcad6", func := "loop.example/g01288/laws.FnExactMixBrines", spec := "fnExactMixBrines", inPlace := ["math.Float64bits", "math.Float64frombits"], unfollowed := true, recurses := true, named := ["math/bits.deBruijn64tab"], apart := false, laid := [("math/bits.deBruijn64tab", laid_math_bits_deBruijn64tab)] }
def FnExactMixBrinesSaid : Prop := fnExactMixBrinesRow.holds Tryd.pinned (OpenSpec.ofChange fnExactMixBrinesSpec)

/-- ITS FALSE NEIGHBOUR: 'it returns false'. Refute it at one input. -/
def fnExactMixBrinesWrong : ChangeSpec := { name := "fnExactMixBrines", fn := fun _ => fun
  | [d1, d2, d3] => { results := [.lit (.bool false)], args := [d1, d2, d3] }
  | _ => none }
def FnExactMixBrinesWrongFalsely : Prop := fnExactMixBrinesRow.holds Tryd.pinned (OpenSpec.ofChange fnExactMixBrinesWrong)

/- THE SECOND FORM. 'bulk': how many values and letters a reading holds, each counted each time it is reached (what is shared counts as often as it is met; a slice's spare places count too). A statement '..UptoSaid' is the law's where the arguments, and the package variables that the reading takes, are together of bulk at most 1048576: NARROWER than '..Said'. Prove '..Said' where nothing that the law and all that it calls make is longer than what came in: it says more and counts as full. Else prove '..UptoSaid'. A law counts once. -/
mutual
def uptoBulk {H : Type} : DataW H → Nat
  | .lit (.string bytes) => bytes.length + 1
  | .lit _ => 1
  | .nil => 1
  | .ptr d => uptoBulk d + 1
  | .slice elems spare => uptoBulkAll elems + uptoBulkAll spare + 1
  | .agg parts => uptoBulkAll parts + 1
  | .iface _ d => uptoBulk d + 1
  | .map entries => uptoBulkEntries entries + 1
  | .held _ => 1
def uptoBulkAll {H : Type} : List (DataW H) → Nat
  | [] => 0
  | d :: r => uptoBulk d + uptoBulkAll r
def uptoBulkEntries {H : Type} : List (Lit × DataW H) → Nat
  | [] => 0
  | x :: r => uptoBulkEntry x + uptoBulkEntries r
def uptoBulkEntry {H : Type} : Lit × DataW H → Nat
  | (.string bytes, d) => bytes.length + uptoBulk d + 1
  | (_, d) => uptoBulk d + 1
 end
def uptoSmall : (H : Type) → List (DataW H) → Bool := fun _ ds => decide (uptoBulkAll ds ≤ 1048576)
def OpenSpec.upto (s : _root_.Go.ChangeSpec) : _root_.Go.OpenSpec := { _root_.Go.OpenSpec.ofChange s with cond := some uptoSmall }

/-- 'laws.FnExactValidGround', WHERE WHAT IT READS IS OF BULK AT MOST 1048576: true; the input reads as it did. -/
def fnExactValidGroundUptoRow : OpenClaim := { program := "ytjmekgogaiokpaadoor", sum := "b796fb19d0173509943cf68f2361d93173883e7d420f95baf9b10f8a0dedcad6", func := "loop.example/g01288/laws.FnExactValidGround", spec := "fnExactValidGround", unfollowed := true, recurses := true, named := ["math/bits.deBruijn64tab"], apart := false, laid := [("math/bits.deBruijn64tab", laid_math_bits_deBruijn64tab)], narrowed := true }
def FnExactValidGroundUptoSaid : Prop := fnExactValidGroundUptoRow.holds Tryd.pinned (OpenSpec.upto fnExactValidGroundSpec)

/-- 'laws.FnExactEvenGround', WHERE WHAT IT READS IS OF BULK AT MOST 1048576: true; the input reads as it did. -/
def fnExactEvenGroundUptoRow : OpenClaim := { program := "ytjmekgogaiokpaadoor", sum := "b796fb19d0173509943cf68f2361d93173883e7d420f95baf9b10f8a0dedcad6", func := "loop.example/g01288/laws.FnExactEvenGround", spec := "fnExactEvenGround", unfollowed := true, recurses := true, named := ["math/bits.deBruijn64tab"], apart := false, laid := [("math/bits.deBruijn64tab", laid_math_bits_deBruijn64tab)], narrowed := true }
def FnExactEvenGroundUptoSaid : Prop := fnExactEvenGroundUptoRow.holds Tryd.pinned (OpenSpec.upto fnExactEvenGroundSpec)

/-- 'laws.FnExactValidBrine', WHERE WHAT IT READS IS OF BULK AT MOST 1048576: true; the input reads as it did. -/
def fnExactValidBrineUptoRow : OpenClaim := { program := "ytjmekgogaiokpaadoor", sum := "b796fb19d0173509943cf68f2361d93173883e7d420f95baf9b10f8a0dedcad6", func := "loop.example/g01288/laws.FnExactValidBrine", spec := "fnExactValidBrine", inPlace := ["math.Float64bits", "math.Float64frombits"], unfollowed := true, recurses := true, named := ["math/bits.deBruijn64tab"], apart := false, laid := [("math/bits.deBruijn64tab", laid_math_bits_deBruijn64tab)], narrowed := true }
def FnExactValidBrineUptoSaid : Prop := fnExactValidBrineUptoRow.holds Tryd.pinned (OpenSpec.upto fnExactValidBrineSpec)

/-- 'laws.FnExactGoesOut', WHERE WHAT IT READS IS OF BULK AT MOST 1048576: true; the input reads as it did. -/
def fnExactGoesOutUptoRow : OpenClaim := { program := "ytjmekgogaiokpaadoor", sum := "b796fb19d0173509943cf68f2361d93173883e7d420f95baf9b10f8a0dedcad6", func := "loop.example/g01288/laws.FnExactGoesOut", spec := "fnExactGoesOut", inPlace := ["math.Float64bits", "math.Float64frombits"], unfollowed := true, recurses := true, named := ["math/bits.deBruijn64tab"], apart := false, laid := [("math/bits.deBruijn64tab", laid_math_bits_deBruijn64tab)], narrowed := true }
def FnExactGoesOutUptoSaid : Prop := fnExactGoesOutUptoRow.holds Tryd.pinned (OpenSpec.upto fnExactGoesOutSpec)

/-- 'laws.FnExactComesIn', WHERE WHAT IT READS IS OF BULK AT MOST 1048576: true; the input reads as it did. -/
def fnExactComesInUptoRow : OpenClaim := { program := "ytjmekgogaiokpaadoor", sum := "b796fb19d0173509943cf68f2361d93173883e7d420f95baf9b10f8a0dedcad6", func := "loop.example/g01288/laws.FnExactComesIn", spec := "fnExactComesIn", inPlace := ["math.Float64bits", "math.Float64frombits"], unfollowed := true, recurses := true, named := ["math/bits.deBruijn64tab"], apart := false, laid := [("math/bits.deBruijn64tab", laid_math_bits_deBruijn64tab)], narrowed := true }
def FnExactComesInUptoSaid : Prop := fnExactComesInUptoRow.holds Tryd.pinned (OpenSpec.upto fnExactComesInSpec)

/-- 'laws.FnExactSafeStep', WHERE WHAT IT READS IS OF BULK AT MOST 1048576: true; the input reads as it did. -/
def fnExactSafeStepUptoRow : OpenClaim := { program := "ytjmekgogaiokpaadoor", sum := "b796fb19d0173509943cf68f2361d93173883e7d420f95baf9b10f8a0dedcad6", func := "loop.example/g01288/laws.FnExactSafeStep", spec := "fnExactSafeStep", inPlace := ["math.Float64bits", "math.Float64frombits"], unfollowed := true, recurses := true, named := ["math/bits.deBruijn64tab"], apart := false, laid := [("math/bits.deBruijn64tab", laid_math_bits_deBruijn64tab)], narrowed := true }
def FnExactSafeStepUptoSaid : Prop := fnExactSafeStepUptoRow.holds Tryd.pinned (OpenSpec.upto fnExactSafeStepSpec)

/-- 'laws.FnExactIsSmallStep', WHERE WHAT IT READS IS OF BULK AT MOST 1048576: true; the input reads as it did. -/
def fnExactIsSmallStepUptoRow : OpenClaim := { program := "ytjmekgogaiokpaadoor", sum := "b796fb19d0173509943cf68f2361d93173883e7d420f95baf9b10f8a0dedcad6", func := "loop.example/g01288/laws.FnExactIsSmallStep", spec := "fnExactIsSmallStep", inPlace := ["math.Float64bits", "math.Float64frombits"], unfollowed := true, recurses := true, named := ["math/bits.deBruijn64tab"], apart := false, laid := [("math/bits.deBruijn64tab", laid_math_bits_deBruijn64tab)], narrowed := true }
def FnExactIsSmallStepUptoSaid : Prop := fnExactIsSmallStepUptoRow.holds Tryd.pinned (OpenSpec.upto fnExactIsSmallStepSpec)

/-- 'laws.FnExactSaltIn', WHERE WHAT IT READS IS OF BULK AT MOST 1048576: true; the input reads as it did. -/
def fnExactSaltInUptoRow : OpenClaim := { program := "ytjmekgogaiokpaadoor", sum := "b796fb19d0173509943cf68f2361d93173883e7d420f95baf9b10f8a0dedcad6", func := "loop.example/g01288/laws.FnExactSaltIn", spec := "fnExactSaltIn", inPlace := ["math.Float64bits", "math.Float64frombits"], unfollowed := true, recurses := true, named := ["math/bits.deBruijn64tab"], apart := false, laid := [("math/bits.deBruijn64tab", laid_math_bits_deBruijn64tab)], narrowed := true }
def FnExactSaltInUptoSaid : Prop := fnExactSaltInUptoRow.holds Tryd.pinned (OpenSpec.upto fnExactSaltInSpec)

/-- 'laws.FnExactFrontOf', WHERE WHAT IT READS IS OF BULK AT MOST 1048576: true; the input reads as it did. -/
def fnExactFrontOfUptoRow : OpenClaim := { program := "ytjmekgogaiokpaadoor", sum := "b796fb19d0173509943cf68f2361d93173883e7d420f95baf9b10f8a0dedcad6", func := "loop.example/g01288/laws.FnExactFrontOf", spec := "fnExactFrontOf", inPlace := ["math.Float64bits", "math.Float64frombits"], unfollowed := true, recurses := true, named := ["math/bits.deBruijn64tab"], apart := false, laid := [("math/bits.deBruijn64tab", laid_math_bits_deBruijn64tab)], narrowed := true }
def FnExactFrontOfUptoSaid : Prop := fnExactFrontOfUptoRow.holds Tryd.pinned (OpenSpec.upto fnExactFrontOfSpec)

/-- 'laws.FnExactDecaySalt', WHERE WHAT IT READS IS OF BULK AT MOST 1048576: true; the input reads as it did. -/
def fnExactDecaySaltUptoRow : OpenClaim := { program := "ytjmekgogaiokpaadoor", sum := "b796fb19d0173509943cf68f2361d93173883e7d420f95baf9b10f8a0dedcad6", func := "loop.example/g01288/laws.FnExactDecaySalt", spec := "fnExactDecaySalt", inPlace := ["math.Float64bits", "math.Float64frombits"], unfollowed := true, recurses := true, named := ["math/bits.deBruijn64tab"], apart := false, laid := [("math/bits.deBruijn64tab", laid_math_bits_deBruijn64tab)], narrowed := true }
def FnExactDecaySaltUptoSaid : Prop := fnExactDecaySaltUptoRow.holds Tryd.pinned (OpenSpec.upto fnExactDecaySaltSpec)

/-- 'laws.FnExactSaltiestCell', WHERE WHAT IT READS IS OF BULK AT MOST 1048576: true; the input reads as it did. -/
def fnExactSaltiestCellUptoRow : OpenClaim := { program := "ytjmekgogaiokpaadoor", sum := "b796fb19d0173509943cf68f2361d93173883e7d420f95baf9b10f8a0dedcad6", func := "loop.example/g01288/laws.FnExactSaltiestCell", spec := "fnExactSaltiestCell", inPlace := ["math.Float64bits", "math.Float64frombits"], unfollowed := true, recurses := true, named := ["math/bits.deBruijn64tab"], apart := false, laid := [("math/bits.deBruijn64tab", laid_math_bits_deBruijn64tab)], narrowed := true }
def FnExactSaltiestCellUptoSaid : Prop := fnExactSaltiestCellUptoRow.holds Tryd.pinned (OpenSpec.upto fnExactSaltiestCellSpec)

/-- 'laws.FnExactReverseBrine', WHERE WHAT IT READS IS OF BULK AT MOST 1048576: true; the input reads as it did. -/
def fnExactReverseBrineUptoRow : OpenClaim := { program := "ytjmekgogaiokpaadoor", sum := "b796fb19d0173509943cf68f2361d93173883e7d420f95baf9b10f8a0dedcad6", func := "loop.example/g01288/laws.FnExactReverseBrine", spec := "fnExactReverseBrine", inPlace := ["math.Float64bits", "math.Float64frombits"], unfollowed := true, recurses := true, named := ["math/bits.deBruijn64tab"], apart := false, laid := [("math/bits.deBruijn64tab", laid_math_bits_deBruijn64tab)], narrowed := true }
def FnExactReverseBrineUptoSaid : Prop := fnExactReverseBrineUptoRow.holds Tryd.pinned (OpenSpec.upto fnExactReverseBrineSpec)

/-- 'laws.FnExactMixBrines', WHERE WHAT IT READS IS OF BULK AT MOST 1048576: true; the input reads as it did. -/
def fnExactMixBrinesUptoRow : OpenClaim := { program := "ytjmekgogaiokpaadoor", sum := "b796fb19d0173509943cf68f2361d93173883e7d420f95baf9b10f8a0dedcad6", func := "loop.example/g01288/laws.FnExactMixBrines", spec := "fnExactMixBrines", inPlace := ["math.Float64bits", "math.Float64frombits"], unfollowed := true, recurses := true, named := ["math/bits.deBruijn64tab"], apart := false, laid := [("math/bits.deBruijn64tab", laid_math_bits_deBruijn64tab)], narrowed := true }
def FnExactMixBrinesUptoSaid : Prop := fnExactMixBrinesUptoRow.holds Tryd.pinned (OpenSpec.upto fnExactMixBrinesSpec)

end Rows
end Go.Proofs.YtjmekgogaiokpaaDoor
