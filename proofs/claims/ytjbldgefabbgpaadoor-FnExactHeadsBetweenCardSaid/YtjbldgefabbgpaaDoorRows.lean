/-
  NARROWER THAN 'FOR EVERY INPUT', by the rows' own cells (each row's printed sentence says how): FnExactCellAt: laid · FnExactBesideCell: laid · FnExactCellsOf: laid · FnExactHeadsBetween: laid · FnExactWithHead: laid · FnExactWithGain: laid · FnExactWithConduct: laid · FnExactWithFixed: laid · FnExactMirrorGround: laid · FnExactSumOver: laid · FnExactFlowFrom: laid · FnExactBalanceAt: laid · FnExactBalancesOf: laid.
  DERIVED. THE GIVEN ROWS OF THIS SEAT. 13 by the template 'for every input the law returns true; each argument reads behind the call as it read before'; 0 by the template 'total and deterministic' (their statements: YtjbldgefabbgpaaDoorTotals.lean).
  GIVEN WITH THE SEED: the statements are not yours to turn. If you find one false, say at which input.
  Laid BY PROGRAM, IN A SANDBOX (cutbox-rows.mjs): the forced cells as the released guide's own fill.sh prints them over the translation cdcb37c10f1241af… (all of the seat's roots in one cut). By AI agents, Wed Nov 11 2026. No macro, syntax, notation, axiom, sorry.
-/
import Derived.Test.YtjbldgefabbgpaaDoorChecked
import GoSem.Claim
import GoSem.ClaimJoined
import GoSem.ClaimMapViews
import Derived.JoinedTies
import Derived.KernelRfl
namespace Go.Proofs.YtjbldgefabbgpaaDoor
/- THE CELL 'sum', in the pinned program and in every row, IS THE sha256 OF THE DUMP (.gsa) THAT YtjbldgefabbgpaaDoorProg.lean LOADS. Nothing in Lean hashes anything: it is a label: what it is worth is what the hold of that sum in a sandbox is worth. -/
noncomputable def Tryd.pinned : Pinned := { name := "ytjbldgefabbgpaadoor", sum := "cdcb37c10f1241afe350cf33a3e56993d1f160c112aad69880f64a05bb17c87c", checked := Tryd.checked }
namespace Rows
def none {H : Type} : Left H := { results := [], args := [] }

/- WHAT THE LISTED PACKAGE-LEVEL VARIABLES READ AS WHEN THE CALL BEGINS. Each datum BY PROGRAM (the guide's laid-datum.mjs) off the statement by which the dump's own 'gosem.cut.vars' lays the variable. In a bare row this is a premise. The card (YtjbldgefabbgpaaDoorCards.lean) ties it to the program's text. -/
def laid_math_bits_deBruijn64tab {H : Type} : DataW H := .agg [.lit (.int .u8 0), .lit (.int .u8 1), .lit (.int .u8 56), .lit (.int .u8 2), .lit (.int .u8 57), .lit (.int .u8 49), .lit (.int .u8 28), .lit (.int .u8 3), .lit (.int .u8 61), .lit (.int .u8 58), .lit (.int .u8 42), .lit (.int .u8 50), .lit (.int .u8 38), .lit (.int .u8 29), .lit (.int .u8 17), .lit (.int .u8 4), .lit (.int .u8 62), .lit (.int .u8 47), .lit (.int .u8 59), .lit (.int .u8 36), .lit (.int .u8 45), .lit (.int .u8 43), .lit (.int .u8 51), .lit (.int .u8 22), .lit (.int .u8 53), .lit (.int .u8 39), .lit (.int .u8 33), .lit (.int .u8 30), .lit (.int .u8 24), .lit (.int .u8 18), .lit (.int .u8 12), .lit (.int .u8 5), .lit (.int .u8 63), .lit (.int .u8 55), .lit (.int .u8 48), .lit (.int .u8 27), .lit (.int .u8 60), .lit (.int .u8 41), .lit (.int .u8 37), .lit (.int .u8 16), .lit (.int .u8 46), .lit (.int .u8 35), .lit (.int .u8 44), .lit (.int .u8 21), .lit (.int .u8 52), .lit (.int .u8 32), .lit (.int .u8 23), .lit (.int .u8 11), .lit (.int .u8 54), .lit (.int .u8 26), .lit (.int .u8 40), .lit (.int .u8 15), .lit (.int .u8 34), .lit (.int .u8 20), .lit (.int .u8 31), .lit (.int .u8 10), .lit (.int .u8 25), .lit (.int .u8 14), .lit (.int .u8 19), .lit (.int .u8 9), .lit (.int .u8 13), .lit (.int .u8 8), .lit (.int .u8 7), .lit (.int .u8 6)]

/-- 'laws.FnExactCellAt': WHATEVER THE INPUT: true; the input reads as it did. -/
def fnExactCellAtSpec : ChangeSpec := { name := "fnExactCellAt", fn := fun _ => fun
  | [d1, d2, d3] => { results := [.lit (.bool true)], args := [d1, d2, d3] }
  | _ => none }
def fnExactCellAtRow : OpenClaim := { program := "ytjbldgefabbgpaadoor", sum := "cdcb37c10f1241afe350cf33a3e56993d1f160c112aad69880f64a05bb17c87c", func := "loop.example/g01288/laws.FnExactCellAt", spec := "fnExactCellAt", unfollowed := true, recurses := true, named := ["math/bits.deBruijn64tab"], apart := false, laid := [("math/bits.deBruijn64tab", laid_math_bits_deBruijn64tab)] }
def FnExactCellAtSaid : Prop := fnExactCellAtRow.holds Tryd.pinned (OpenSpec.ofChange fnExactCellAtSpec)

/-- ITS FALSE NEIGHBOUR: 'it returns false'. Refute it at one input. -/
def fnExactCellAtWrong : ChangeSpec := { name := "fnExactCellAt", fn := fun _ => fun
  | [d1, d2, d3] => { results := [.lit (.bool false)], args := [d1, d2, d3] }
  | _ => none }
def FnExactCellAtWrongFalsely : Prop := fnExactCellAtRow.holds Tryd.pinned (OpenSpec.ofChange fnExactCellAtWrong)

/-- 'laws.FnExactBesideCell': WHATEVER THE INPUT: true; the input reads as it did. -/
def fnExactBesideCellSpec : ChangeSpec := { name := "fnExactBesideCell", fn := fun _ => fun
  | [d1, d2, d3] => { results := [.lit (.bool true)], args := [d1, d2, d3] }
  | _ => none }
def fnExactBesideCellRow : OpenClaim := { program := "ytjbldgefabbgpaadoor", sum := "cdcb37c10f1241afe350cf33a3e56993d1f160c112aad69880f64a05bb17c87c", func := "loop.example/g01288/laws.FnExactBesideCell", spec := "fnExactBesideCell", unfollowed := true, recurses := true, named := ["math/bits.deBruijn64tab"], apart := false, laid := [("math/bits.deBruijn64tab", laid_math_bits_deBruijn64tab)] }
def FnExactBesideCellSaid : Prop := fnExactBesideCellRow.holds Tryd.pinned (OpenSpec.ofChange fnExactBesideCellSpec)

/-- ITS FALSE NEIGHBOUR: 'it returns false'. Refute it at one input. -/
def fnExactBesideCellWrong : ChangeSpec := { name := "fnExactBesideCell", fn := fun _ => fun
  | [d1, d2, d3] => { results := [.lit (.bool false)], args := [d1, d2, d3] }
  | _ => none }
def FnExactBesideCellWrongFalsely : Prop := fnExactBesideCellRow.holds Tryd.pinned (OpenSpec.ofChange fnExactBesideCellWrong)

/-- 'laws.FnExactCellsOf': WHATEVER THE INPUT: true; the input reads as it did. -/
def fnExactCellsOfSpec : ChangeSpec := { name := "fnExactCellsOf", fn := fun _ => fun
  | [d] => { results := [.lit (.bool true)], args := [d] }
  | _ => none }
def fnExactCellsOfRow : OpenClaim := { program := "ytjbldgefabbgpaadoor", sum := "cdcb37c10f1241afe350cf33a3e56993d1f160c112aad69880f64a05bb17c87c", func := "loop.example/g01288/laws.FnExactCellsOf", spec := "fnExactCellsOf", unfollowed := true, recurses := true, named := ["math/bits.deBruijn64tab"], apart := false, laid := [("math/bits.deBruijn64tab", laid_math_bits_deBruijn64tab)] }
def FnExactCellsOfSaid : Prop := fnExactCellsOfRow.holds Tryd.pinned (OpenSpec.ofChange fnExactCellsOfSpec)

/-- ITS FALSE NEIGHBOUR: 'it returns false'. Refute it at one input. -/
def fnExactCellsOfWrong : ChangeSpec := { name := "fnExactCellsOf", fn := fun _ => fun
  | [d] => { results := [.lit (.bool false)], args := [d] }
  | _ => none }
def FnExactCellsOfWrongFalsely : Prop := fnExactCellsOfRow.holds Tryd.pinned (OpenSpec.ofChange fnExactCellsOfWrong)

/-- 'laws.FnExactHeadsBetween': WHATEVER THE INPUT: true; the input reads as it did. -/
def fnExactHeadsBetweenSpec : ChangeSpec := { name := "fnExactHeadsBetween", fn := fun _ => fun
  | [d] => { results := [.lit (.bool true)], args := [d] }
  | _ => none }
def fnExactHeadsBetweenRow : OpenClaim := { program := "ytjbldgefabbgpaadoor", sum := "cdcb37c10f1241afe350cf33a3e56993d1f160c112aad69880f64a05bb17c87c", func := "loop.example/g01288/laws.FnExactHeadsBetween", spec := "fnExactHeadsBetween", unfollowed := true, recurses := true, named := ["math/bits.deBruijn64tab"], apart := false, laid := [("math/bits.deBruijn64tab", laid_math_bits_deBruijn64tab)] }
def FnExactHeadsBetweenSaid : Prop := fnExactHeadsBetweenRow.holds Tryd.pinned (OpenSpec.ofChange fnExactHeadsBetweenSpec)

/-- ITS FALSE NEIGHBOUR: 'it returns false'. Refute it at one input. -/
def fnExactHeadsBetweenWrong : ChangeSpec := { name := "fnExactHeadsBetween", fn := fun _ => fun
  | [d] => { results := [.lit (.bool false)], args := [d] }
  | _ => none }
def FnExactHeadsBetweenWrongFalsely : Prop := fnExactHeadsBetweenRow.holds Tryd.pinned (OpenSpec.ofChange fnExactHeadsBetweenWrong)

/-- 'laws.FnExactWithHead': WHATEVER THE INPUT: true; the input reads as it did. -/
def fnExactWithHeadSpec : ChangeSpec := { name := "fnExactWithHead", fn := fun _ => fun
  | [d1, d2, d3] => { results := [.lit (.bool true)], args := [d1, d2, d3] }
  | _ => none }
def fnExactWithHeadRow : OpenClaim := { program := "ytjbldgefabbgpaadoor", sum := "cdcb37c10f1241afe350cf33a3e56993d1f160c112aad69880f64a05bb17c87c", func := "loop.example/g01288/laws.FnExactWithHead", spec := "fnExactWithHead", unfollowed := true, recurses := true, named := ["math/bits.deBruijn64tab"], apart := false, laid := [("math/bits.deBruijn64tab", laid_math_bits_deBruijn64tab)] }
def FnExactWithHeadSaid : Prop := fnExactWithHeadRow.holds Tryd.pinned (OpenSpec.ofChange fnExactWithHeadSpec)

/-- ITS FALSE NEIGHBOUR: 'it returns false'. Refute it at one input. -/
def fnExactWithHeadWrong : ChangeSpec := { name := "fnExactWithHead", fn := fun _ => fun
  | [d1, d2, d3] => { results := [.lit (.bool false)], args := [d1, d2, d3] }
  | _ => none }
def FnExactWithHeadWrongFalsely : Prop := fnExactWithHeadRow.holds Tryd.pinned (OpenSpec.ofChange fnExactWithHeadWrong)

/-- 'laws.FnExactWithGain': WHATEVER THE INPUT: true; the input reads as it did. -/
def fnExactWithGainSpec : ChangeSpec := { name := "fnExactWithGain", fn := fun _ => fun
  | [d1, d2, d3] => { results := [.lit (.bool true)], args := [d1, d2, d3] }
  | _ => none }
def fnExactWithGainRow : OpenClaim := { program := "ytjbldgefabbgpaadoor", sum := "cdcb37c10f1241afe350cf33a3e56993d1f160c112aad69880f64a05bb17c87c", func := "loop.example/g01288/laws.FnExactWithGain", spec := "fnExactWithGain", unfollowed := true, recurses := true, named := ["math/bits.deBruijn64tab"], apart := false, laid := [("math/bits.deBruijn64tab", laid_math_bits_deBruijn64tab)] }
def FnExactWithGainSaid : Prop := fnExactWithGainRow.holds Tryd.pinned (OpenSpec.ofChange fnExactWithGainSpec)

/-- ITS FALSE NEIGHBOUR: 'it returns false'. Refute it at one input. -/
def fnExactWithGainWrong : ChangeSpec := { name := "fnExactWithGain", fn := fun _ => fun
  | [d1, d2, d3] => { results := [.lit (.bool false)], args := [d1, d2, d3] }
  | _ => none }
def FnExactWithGainWrongFalsely : Prop := fnExactWithGainRow.holds Tryd.pinned (OpenSpec.ofChange fnExactWithGainWrong)

/-- 'laws.FnExactWithConduct': WHATEVER THE INPUT: true; the input reads as it did. -/
def fnExactWithConductSpec : ChangeSpec := { name := "fnExactWithConduct", fn := fun _ => fun
  | [d1, d2, d3] => { results := [.lit (.bool true)], args := [d1, d2, d3] }
  | _ => none }
def fnExactWithConductRow : OpenClaim := { program := "ytjbldgefabbgpaadoor", sum := "cdcb37c10f1241afe350cf33a3e56993d1f160c112aad69880f64a05bb17c87c", func := "loop.example/g01288/laws.FnExactWithConduct", spec := "fnExactWithConduct", unfollowed := true, recurses := true, named := ["math/bits.deBruijn64tab"], apart := false, laid := [("math/bits.deBruijn64tab", laid_math_bits_deBruijn64tab)] }
def FnExactWithConductSaid : Prop := fnExactWithConductRow.holds Tryd.pinned (OpenSpec.ofChange fnExactWithConductSpec)

/-- ITS FALSE NEIGHBOUR: 'it returns false'. Refute it at one input. -/
def fnExactWithConductWrong : ChangeSpec := { name := "fnExactWithConduct", fn := fun _ => fun
  | [d1, d2, d3] => { results := [.lit (.bool false)], args := [d1, d2, d3] }
  | _ => none }
def FnExactWithConductWrongFalsely : Prop := fnExactWithConductRow.holds Tryd.pinned (OpenSpec.ofChange fnExactWithConductWrong)

/-- 'laws.FnExactWithFixed': WHATEVER THE INPUT: true; the input reads as it did. -/
def fnExactWithFixedSpec : ChangeSpec := { name := "fnExactWithFixed", fn := fun _ => fun
  | [d1, d2, d3] => { results := [.lit (.bool true)], args := [d1, d2, d3] }
  | _ => none }
def fnExactWithFixedRow : OpenClaim := { program := "ytjbldgefabbgpaadoor", sum := "cdcb37c10f1241afe350cf33a3e56993d1f160c112aad69880f64a05bb17c87c", func := "loop.example/g01288/laws.FnExactWithFixed", spec := "fnExactWithFixed", unfollowed := true, recurses := true, named := ["math/bits.deBruijn64tab"], apart := false, laid := [("math/bits.deBruijn64tab", laid_math_bits_deBruijn64tab)] }
def FnExactWithFixedSaid : Prop := fnExactWithFixedRow.holds Tryd.pinned (OpenSpec.ofChange fnExactWithFixedSpec)

/-- ITS FALSE NEIGHBOUR: 'it returns false'. Refute it at one input. -/
def fnExactWithFixedWrong : ChangeSpec := { name := "fnExactWithFixed", fn := fun _ => fun
  | [d1, d2, d3] => { results := [.lit (.bool false)], args := [d1, d2, d3] }
  | _ => none }
def FnExactWithFixedWrongFalsely : Prop := fnExactWithFixedRow.holds Tryd.pinned (OpenSpec.ofChange fnExactWithFixedWrong)

/-- 'laws.FnExactMirrorGround': WHATEVER THE INPUT: true; the input reads as it did. -/
def fnExactMirrorGroundSpec : ChangeSpec := { name := "fnExactMirrorGround", fn := fun _ => fun
  | [d] => { results := [.lit (.bool true)], args := [d] }
  | _ => none }
def fnExactMirrorGroundRow : OpenClaim := { program := "ytjbldgefabbgpaadoor", sum := "cdcb37c10f1241afe350cf33a3e56993d1f160c112aad69880f64a05bb17c87c", func := "loop.example/g01288/laws.FnExactMirrorGround", spec := "fnExactMirrorGround", unfollowed := true, recurses := true, named := ["math/bits.deBruijn64tab"], apart := false, laid := [("math/bits.deBruijn64tab", laid_math_bits_deBruijn64tab)] }
def FnExactMirrorGroundSaid : Prop := fnExactMirrorGroundRow.holds Tryd.pinned (OpenSpec.ofChange fnExactMirrorGroundSpec)

/-- ITS FALSE NEIGHBOUR: 'it returns false'. Refute it at one input. -/
def fnExactMirrorGroundWrong : ChangeSpec := { name := "fnExactMirrorGround", fn := fun _ => fun
  | [d] => { results := [.lit (.bool false)], args := [d] }
  | _ => none }
def FnExactMirrorGroundWrongFalsely : Prop := fnExactMirrorGroundRow.holds Tryd.pinned (OpenSpec.ofChange fnExactMirrorGroundWrong)

/-- 'laws.FnExactSumOver': WHATEVER THE INPUT: true; the input reads as it did. -/
def fnExactSumOverSpec : ChangeSpec := { name := "fnExactSumOver", fn := fun _ => fun
  | [d1, d2] => { results := [.lit (.bool true)], args := [d1, d2] }
  | _ => none }
def fnExactSumOverRow : OpenClaim := { program := "ytjbldgefabbgpaadoor", sum := "cdcb37c10f1241afe350cf33a3e56993d1f160c112aad69880f64a05bb17c87c", func := "loop.example/g01288/laws.FnExactSumOver", spec := "fnExactSumOver", inPlace := ["math.Float64bits", "math.Float64frombits"], unfollowed := true, recurses := true, named := ["math/bits.deBruijn64tab"], apart := false, laid := [("math/bits.deBruijn64tab", laid_math_bits_deBruijn64tab)] }
def FnExactSumOverSaid : Prop := fnExactSumOverRow.holds Tryd.pinned (OpenSpec.ofChange fnExactSumOverSpec)

/-- ITS FALSE NEIGHBOUR: 'it returns false'. Refute it at one input. -/
def fnExactSumOverWrong : ChangeSpec := { name := "fnExactSumOver", fn := fun _ => fun
  | [d1, d2] => { results := [.lit (.bool false)], args := [d1, d2] }
  | _ => none }
def FnExactSumOverWrongFalsely : Prop := fnExactSumOverRow.holds Tryd.pinned (OpenSpec.ofChange fnExactSumOverWrong)

/-- 'laws.FnExactFlowFrom': WHATEVER THE INPUT: true; the input reads as it did. -/
def fnExactFlowFromSpec : ChangeSpec := { name := "fnExactFlowFrom", fn := fun _ => fun
  | [d1, d2, d3] => { results := [.lit (.bool true)], args := [d1, d2, d3] }
  | _ => none }
def fnExactFlowFromRow : OpenClaim := { program := "ytjbldgefabbgpaadoor", sum := "cdcb37c10f1241afe350cf33a3e56993d1f160c112aad69880f64a05bb17c87c", func := "loop.example/g01288/laws.FnExactFlowFrom", spec := "fnExactFlowFrom", inPlace := ["math.Float64bits", "math.Float64frombits"], unfollowed := true, recurses := true, named := ["math/bits.deBruijn64tab"], apart := false, laid := [("math/bits.deBruijn64tab", laid_math_bits_deBruijn64tab)] }
def FnExactFlowFromSaid : Prop := fnExactFlowFromRow.holds Tryd.pinned (OpenSpec.ofChange fnExactFlowFromSpec)

/-- ITS FALSE NEIGHBOUR: 'it returns false'. Refute it at one input. -/
def fnExactFlowFromWrong : ChangeSpec := { name := "fnExactFlowFrom", fn := fun _ => fun
  | [d1, d2, d3] => { results := [.lit (.bool false)], args := [d1, d2, d3] }
  | _ => none }
def FnExactFlowFromWrongFalsely : Prop := fnExactFlowFromRow.holds Tryd.pinned (OpenSpec.ofChange fnExactFlowFromWrong)

/-- 'laws.FnExactBalanceAt': WHATEVER THE INPUT: true; the input reads as it did. -/
def fnExactBalanceAtSpec : ChangeSpec := { name := "fnExactBalanceAt", fn := fun _ => fun
  | [d1, d2] => { results := [.lit (.bool true)], args := [d1, d2] }
  | _ => none }
def fnExactBalanceAtRow : OpenClaim := { program := "ytjbldgefabbgpaadoor", sum := "cdcb37c10f1241afe350cf33a3e56993d1f160c112aad69880f64a05bb17c87c", func := "loop.example/g01288/laws.FnExactBalanceAt", spec := "fnExactBalanceAt", inPlace := ["math.Float64bits", "math.Float64frombits"], unfollowed := true, recurses := true, named := ["math/bits.deBruijn64tab"], apart := false, laid := [("math/bits.deBruijn64tab", laid_math_bits_deBruijn64tab)] }
def FnExactBalanceAtSaid : Prop := fnExactBalanceAtRow.holds Tryd.pinned (OpenSpec.ofChange fnExactBalanceAtSpec)

/-- ITS FALSE NEIGHBOUR: 'it returns false'. Refute it at one input. -/
def fnExactBalanceAtWrong : ChangeSpec := { name := "fnExactBalanceAt", fn := fun _ => fun
  | [d1, d2] => { results := [.lit (.bool false)], args := [d1, d2] }
  | _ => none }
def FnExactBalanceAtWrongFalsely : Prop := fnExactBalanceAtRow.holds Tryd.pinned (OpenSpec.ofChange fnExactBalanceAtWrong)

/-- 'laws.FnExactBalancesOf': WHATEVER THE INPUT: true; the input reads as it did. -/
def fnExactBalancesOfSpec : ChangeSpec := { name := "fnExactBalancesOf", fn := fun _ => fun
  | [d] => { results := [.lit (.bool true)], args := [d] }
  | _ => none }
def fnExactBalancesOfRow : OpenClaim := { program := "ytjbldgefabbgpaadoor", sum := "cdcb37c10f1241afe350cf33a3e56993d1f160c112aad69880f64a05bb17c87c", func := "loop.example/g01288/laws.FnExactBalancesOf", spec := "fnExactBalancesOf", inPlace := ["math.Float64bits", "math.Float64frombits"], unfollowed := true, recurses := true, named := ["math/bits.deBruijn64tab"], apart := false, laid := [("math/bits.deBruijn64tab", laid_math_bits_deBruijn64tab)] }
def FnExactBalancesOfSaid : Prop := fnExactBalancesOfRow.holds Tryd.pinned (OpenSpec.ofChange fnExactBalancesOfSpec)

/-- ITS FALSE NEIGHBOUR: 'it returns false'. Refute it at one input. -/
def fnExactBalancesOfWrong : ChangeSpec := { name := "fnExactBalancesOf", fn := fun _ => fun
  | [d] => { results := [.lit (.bool false)], args := [d] }
  | _ => none }
def FnExactBalancesOfWrongFalsely : Prop := fnExactBalancesOfRow.holds Tryd.pinned (OpenSpec.ofChange fnExactBalancesOfWrong)

/- THE SECOND FORM. 'bulk': how many values and letters a reading holds, each counted each time it is reached (what is shared counts as often as it is met; a slice's spare places count too). A statement '..UptoSaid' is the law's where the arguments, and the package variables that the reading takes, are together of bulk at most 1048576: NARROWER than '..Said'. Prove '..Said' where nothing that the law and all that it calls make is longer than what came in: it says more and counts as full. Else prove '..UptoSaid'. A law counts once. -/
mutual
def uptoBulk {H : Type} : DataW H → Nat
  | .lit (.string bytes) => bytes.length + 1
  | .lit _ => 1
  | .nil => 1
  | .ptr d => uptoBulk d + 1
  | .slice elems spare => uptoBulkAll elems + uptoBulkAll spare + 1
  | .agg parts => uptoBulkAll parts + 1
  | .iface _ d => uptoBulk d + 1
  | .map entries => uptoBulkEntries entries + 1
  | .held _ => 1
def uptoBulkAll {H : Type} : List (DataW H) → Nat
  | [] => 0
  | d :: r => uptoBulk d + uptoBulkAll r
def uptoBulkEntries {H : Type} : List (Lit × DataW H) → Nat
  | [] => 0
  | x :: r => uptoBulkEntry x + uptoBulkEntries r
def uptoBulkEntry {H : Type} : Lit × DataW H → Nat
  | (.string bytes, d) => bytes.length + uptoBulk d + 1
  | (_, d) => uptoBulk d + 1
 end
def uptoSmall : (H : Type) → List (DataW H) → Bool := fun _ ds => decide (uptoBulkAll ds ≤ 1048576)
def OpenSpec.upto (s : _root_.Go.ChangeSpec) : _root_.Go.OpenSpec := { _root_.Go.OpenSpec.ofChange s with cond := some uptoSmall }

/-- 'laws.FnExactCellAt', WHERE WHAT IT READS IS OF BULK AT MOST 1048576: true; the input reads as it did. -/
def fnExactCellAtUptoRow : OpenClaim := { program := "ytjbldgefabbgpaadoor", sum := "cdcb37c10f1241afe350cf33a3e56993d1f160c112aad69880f64a05bb17c87c", func := "loop.example/g01288/laws.FnExactCellAt", spec := "fnExactCellAt", unfollowed := true, recurses := true, named := ["math/bits.deBruijn64tab"], apart := false, laid := [("math/bits.deBruijn64tab", laid_math_bits_deBruijn64tab)], narrowed := true }
def FnExactCellAtUptoSaid : Prop := fnExactCellAtUptoRow.holds Tryd.pinned (OpenSpec.upto fnExactCellAtSpec)

/-- 'laws.FnExactBesideCell', WHERE WHAT IT READS IS OF BULK AT MOST 1048576: true; the input reads as it did. -/
def fnExactBesideCellUptoRow : OpenClaim := { program := "ytjbldgefabbgpaadoor", sum := "cdcb37c10f1241afe350cf33a3e56993d1f160c112aad69880f64a05bb17c87c", func := "loop.example/g01288/laws.FnExactBesideCell", spec := "fnExactBesideCell", unfollowed := true, recurses := true, named := ["math/bits.deBruijn64tab"], apart := false, laid := [("math/bits.deBruijn64tab", laid_math_bits_deBruijn64tab)], narrowed := true }
def FnExactBesideCellUptoSaid : Prop := fnExactBesideCellUptoRow.holds Tryd.pinned (OpenSpec.upto fnExactBesideCellSpec)

/-- 'laws.FnExactCellsOf', WHERE WHAT IT READS IS OF BULK AT MOST 1048576: true; the input reads as it did. -/
def fnExactCellsOfUptoRow : OpenClaim := { program := "ytjbldgefabbgpaadoor", sum := "cdcb37c10f1241afe350cf33a3e56993d1f160c112aad69880f64a05bb17c87c", func := "loop.example/g01288/laws.FnExactCellsOf", spec := "fnExactCellsOf", unfollowed := true, recurses := true, named := ["math/bits.deBruijn64tab"], apart := false, laid := [("math/bits.deBruijn64tab", laid_math_bits_deBruijn64tab)], narrowed := true }
def FnExactCellsOfUptoSaid : Prop := fnExactCellsOfUptoRow.holds Tryd.pinned (OpenSpec.upto fnExactCellsOfSpec)

/-- 'laws.FnExactHeadsBetween', WHERE WHAT IT READS IS OF BULK AT MOST 1048576: true; the input reads as it did. -/
def fnExactHeadsBetweenUptoRow : OpenClaim := { program := "ytjbldgefabbgpaadoor", sum := "cdcb37c10f1241afe350cf33a3e56993d1f160c112aad69880f64a05bb17c87c", func := "loop.example/g01288/laws.FnExactHeadsBetween", spec := "fnExactHeadsBetween", unfollowed := true, recurses := true, named := ["math/bits.deBruijn64tab"], apart := false, laid := [("math/bits.deBruijn64tab", laid_math_bits_deBruijn64tab)], narrowed := true }
def FnExactHeadsBetweenUptoSaid : Prop := fnExactHeadsBetweenUptoRow.holds Tryd.pinned (OpenSpec.upto fnExactHeadsBetweenSpec)

/-- 'laws.FnExactWithHead', WHERE WHAT IT READS IS OF BULK AT MOST 1048576: true; the input reads as it did. -/
def fnExactWithHeadUptoRow : OpenClaim := { program := "ytjbldgefabbgpaadoor", sum := "cdcb37c10f1241afe350cf33a3e56993d1f160c112aad69880f64a05bb17c87c", func := "loop.example/g01288/laws.FnExactWithHead", spec := "fnExactWithHead", unfollowed := true, recurses := true, named := ["math/bits.deBruijn64tab"], apart := false, laid := [("math/bits.deBruijn64tab", laid_math_bits_deBruijn64tab)], narrowed := true }
def FnExactWithHeadUptoSaid : Prop := fnExactWithHeadUptoRow.holds Tryd.pinned (OpenSpec.upto fnExactWithHeadSpec)

/-- 'laws.FnExactWithGain', WHERE WHAT IT READS IS OF BULK AT MOST 1048576: true; the input reads as it did. -/
def fnExactWithGainUptoRow : OpenClaim := { program := "ytjbldgefabbgpaadoor", sum := "cdcb37c10f1241afe350cf33a3e56993d1f160c112aad69880f64a05bb17c87c", func := "loop.example/g01288/laws.FnExactWithGain", spec := "fnExactWithGain", unfollowed := true, recurses := true, named := ["math/bits.deBruijn64tab"], apart := false, laid := [("math/bits.deBruijn64tab", laid_math_bits_deBruijn64tab)], narrowed := true }
def FnExactWithGainUptoSaid : Prop := fnExactWithGainUptoRow.holds Tryd.pinned (OpenSpec.upto fnExactWithGainSpec)

/-- 'laws.FnExactWithConduct', WHERE WHAT IT READS IS OF BULK AT MOST 1048576: true; the input reads as it did. -/
def fnExactWithConductUptoRow : OpenClaim := { program := "ytjbldgefabbgpaadoor", sum := "cdcb37c10f1241afe350cf33a3e56993d1f160c112aad69880f64a05bb17c87c", func := "loop.example/g01288/laws.FnExactWithConduct", spec := "fnExactWithConduct", unfollowed := true, recurses := true, named := ["math/bits.deBruijn64tab"], apart := false, laid := [("math/bits.deBruijn64tab", laid_math_bits_deBruijn64tab)], narrowed := true }
def FnExactWithConductUptoSaid : Prop := fnExactWithConductUptoRow.holds Tryd.pinned (OpenSpec.upto fnExactWithConductSpec)

/-- 'laws.FnExactWithFixed', WHERE WHAT IT READS IS OF BULK AT MOST 1048576: true; the input reads as it did. -/
def fnExactWithFixedUptoRow : OpenClaim := { program := "ytjbldgefabbgpaadoor", sum := "cdcb37c10f1241afe350cf33a3e56993d1f160c112aad69880f64a05bb17c87c", func := "loop.example/g01288/laws.FnExactWithFixed", spec := "fnExactWithFixed", unfollowed := true, recurses := true, named := ["math/bits.deBruijn64tab"], apart := false, laid := [("math/bits.deBruijn64tab", laid_math_bits_deBruijn64tab)], narrowed := true }
def FnExactWithFixedUptoSaid : Prop := fnExactWithFixedUptoRow.holds Tryd.pinned (OpenSpec.upto fnExactWithFixedSpec)

/-- 'laws.FnExactMirrorGround', WHERE WHAT IT READS IS OF BULK AT MOST 1048576: true; the input reads as it did. -/
def fnExactMirrorGroundUptoRow : OpenClaim := { program := "ytjbldgefabbgpaadoor", sum := "cdcb37c10f1241afe350cf33a3e56993d1f160c112aad69880f64a05bb17c87c", func := "loop.example/g01288/laws.FnExactMirrorGround", spec := "fnExactMirrorGround", unfollowed := true, recurses := true, named := ["math/bits.deBruijn64tab"], apart := false, laid := [("math/bits.deBruijn64tab", laid_math_bits_deBruijn64tab)], narrowed := true }
def FnExactMirrorGroundUptoSaid : Prop := fnExactMirrorGroundUptoRow.holds Tryd.pinned (OpenSpec.upto fnExactMirrorGroundSpec)

/-- 'laws.FnExactSumOver', WHERE WHAT IT READS IS OF BULK AT MOST 1048576: true; the input reads as it did. -/
def fnExactSumOverUptoRow : OpenClaim := { program := "ytjbldgefabbgpaadoor", sum := "cdcb37c10f1241afe350cf33a3e56993d1f160c112aad69880f64a05bb17c87c", func := "loop.example/g01288/laws.FnExactSumOver", spec := "fnExactSumOver", inPlace := ["math.Float64bits", "math.Float64frombits"], unfollowed := true, recurses := true, named := ["math/bits.deBruijn64tab"], apart := false, laid := [("math/bits.deBruijn64tab", laid_math_bits_deBruijn64tab)], narrowed := true }
def FnExactSumOverUptoSaid : Prop := fnExactSumOverUptoRow.holds Tryd.pinned (OpenSpec.upto fnExactSumOverSpec)

/-- 'laws.FnExactFlowFrom', WHERE WHAT IT READS IS OF BULK AT MOST 1048576: true; the input reads as it did. -/
def fnExactFlowFromUptoRow : OpenClaim := { program := "ytjbldgefabbgpaadoor", sum := "cdcb37c10f1241afe350cf33a3e56993d1f160c112aad69880f64a05bb17c87c", func := "loop.example/g01288/laws.FnExactFlowFrom", spec := "fnExactFlowFrom", inPlace := ["math.Float64bits", "math.Float64frombits"], unfollowed := true, recurses := true, named := ["math/bits.deBruijn64tab"], apart := false, laid := [("math/bits.deBruijn64tab", laid_math_bits_deBruijn64tab)], narrowed := true }
def FnExactFlowFromUptoSaid : Prop := fnExactFlowFromUptoRow.holds Tryd.pinned (OpenSpec.upto fnExactFlowFromSpec)

/-- 'laws.FnExactBalanceAt', WHERE WHAT IT READS IS OF BULK AT MOST 1048576: true; the input reads as it did. -/
def fnExactBalanceAtUptoRow : OpenClaim := { program := "ytjbldgefabbgpaadoor", sum := "cdcb37c10f1241afe350cf33a3e56993d1f160c112aad69880f64a05bb17c87c", func := "loop.example/g01288/laws.FnExactBalanceAt", spec := "fnExactBalanceAt", inPlace := ["math.Float64bits", "math.Float64frombits"], unfollowed := true, recurses := true, named := ["math/bits.deBruijn64tab"], apart := false, laid := [("math/bits.deBruijn64tab", laid_math_bits_deBruijn64tab)], narrowed := true }
def FnExactBalanceAtUptoSaid : Prop := fnExactBalanceAtUptoRow.holds Tryd.pinned (OpenSpec.upto fnExactBalanceAtSpec)

/-- 'laws.FnExactBalancesOf', WHERE WHAT IT READS IS OF BULK AT MOST 1048576: true; the input reads as it did. -/
def fnExactBalancesOfUptoRow : OpenClaim := { program := "ytjbldgefabbgpaadoor", sum := "cdcb37c10f1241afe350cf33a3e56993d1f160c112aad69880f64a05bb17c87c", func := "loop.example/g01288/laws.FnExactBalancesOf", spec := "fnExactBalancesOf", inPlace := ["math.Float64bits", "math.Float64frombits"], unfollowed := true, recurses := true, named := ["math/bits.deBruijn64tab"], apart := false, laid := [("math/bits.deBruijn64tab", laid_math_bits_deBruijn64tab)], narrowed := true }
def FnExactBalancesOfUptoSaid : Prop := fnExactBalancesOfUptoRow.holds Tryd.pinned (OpenSpec.upto fnExactBalancesOfSpec)

end Rows
end Go.Proofs.YtjbldgefabbgpaaDoor
