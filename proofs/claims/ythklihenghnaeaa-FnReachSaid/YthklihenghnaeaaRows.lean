/-
  No cell of these rows narrows 'for every input' (looked for: loops, veiled, ifaces, maps, wideKeys, modest, calm, conditions, laid).
  DERIVED. THE GIVEN ROWS OF THIS SEAT. 12 by the template 'for every input the law returns true; each argument reads behind the call as it read before'; 0 by the template 'total and deterministic' (their statements: YthklihenghnaeaaTotals.lean).
  GIVEN WITH THE SEED: the statements are not yours to turn. If you find one false, say at which input.
  Laid BY PROGRAM, IN A SANDBOX (cutbox-rows.mjs): the forced cells as the released guide's own fill.sh prints them over the translation 135c1b9644234c96… (all of the seat's roots in one cut). By AI agents, Wed Nov 11 2026. No macro, syntax, notation, axiom, sorry.
-/
import Derived.Test.YthklihenghnaeaaChecked
import GoSem.Claim
import GoSem.ClaimJoined
import GoSem.ClaimMapViews
import Derived.JoinedTies
import Derived.KernelRfl
namespace Go.Proofs.Ythklihenghnaeaa
/- THE CELL 'sum', in the pinned program and in every row, IS THE sha256 OF THE DUMP (.gsa) THAT YthklihenghnaeaaProg.lean LOADS. Nothing in Lean hashes anything: it is a label: what it is worth is what the hold of that sum in a sandbox is worth. -/
noncomputable def Try.pinned : Pinned := { name := "ythklihenghnaeaa", sum := "135c1b9644234c96ecc03e341d8022b104ed25e04f4613a20f963145e1a94049", checked := Try.checked }
namespace Rows
def none {H : Type} : Left H := { results := [], args := [] }

/-- 'laws.FnReach': WHATEVER THE INPUT: true; the input reads as it did. -/
def fnReachSpec : ChangeSpec := { name := "fnReach", fn := fun _ => fun
  | [d1, d2] => { results := [.lit (.bool true)], args := [d1, d2] }
  | _ => none }
def fnReachRow : OpenClaim := { program := "ythklihenghnaeaa", sum := "135c1b9644234c96ecc03e341d8022b104ed25e04f4613a20f963145e1a94049", func := "loop.example/g01288/laws.FnReach", spec := "fnReach", unfollowed := true, recurses := true, apart := false }
def FnReachSaid : Prop := fnReachRow.holds Try.pinned (OpenSpec.ofChange fnReachSpec)

/-- ITS FALSE NEIGHBOUR: 'it returns false'. Refute it at one input. -/
def fnReachWrong : ChangeSpec := { name := "fnReach", fn := fun _ => fun
  | [d1, d2] => { results := [.lit (.bool false)], args := [d1, d2] }
  | _ => none }
def FnReachWrongFalsely : Prop := fnReachRow.holds Try.pinned (OpenSpec.ofChange fnReachWrong)

/-- 'laws.FnExactValidAquifer': WHATEVER THE INPUT: true; the input reads as it did. -/
def fnExactValidAquiferSpec : ChangeSpec := { name := "fnExactValidAquifer", fn := fun _ => fun
  | [d] => { results := [.lit (.bool true)], args := [d] }
  | _ => none }
def fnExactValidAquiferRow : OpenClaim := { program := "ythklihenghnaeaa", sum := "135c1b9644234c96ecc03e341d8022b104ed25e04f4613a20f963145e1a94049", func := "loop.example/g01288/laws.FnExactValidAquifer", spec := "fnExactValidAquifer", apart := false }
def FnExactValidAquiferSaid : Prop := fnExactValidAquiferRow.holds Try.pinned (OpenSpec.ofChange fnExactValidAquiferSpec)

/-- ITS FALSE NEIGHBOUR: 'it returns false'. Refute it at one input. -/
def fnExactValidAquiferWrong : ChangeSpec := { name := "fnExactValidAquifer", fn := fun _ => fun
  | [d] => { results := [.lit (.bool false)], args := [d] }
  | _ => none }
def FnExactValidAquiferWrongFalsely : Prop := fnExactValidAquiferRow.holds Try.pinned (OpenSpec.ofChange fnExactValidAquiferWrong)

/-- 'laws.FnExactArgumentAt': WHATEVER THE INPUT: true; the input reads as it did. -/
def fnExactArgumentAtSpec : ChangeSpec := { name := "fnExactArgumentAt", fn := fun _ => fun
  | [d1, d2, d3, d4, d5] => { results := [.lit (.bool true)], args := [d1, d2, d3, d4, d5] }
  | _ => none }
def fnExactArgumentAtRow : OpenClaim := { program := "ythklihenghnaeaa", sum := "135c1b9644234c96ecc03e341d8022b104ed25e04f4613a20f963145e1a94049", func := "loop.example/g01288/laws.FnExactArgumentAt", spec := "fnExactArgumentAt", apart := false }
def FnExactArgumentAtSaid : Prop := fnExactArgumentAtRow.holds Try.pinned (OpenSpec.ofChange fnExactArgumentAtSpec)

/-- ITS FALSE NEIGHBOUR: 'it returns false'. Refute it at one input. -/
def fnExactArgumentAtWrong : ChangeSpec := { name := "fnExactArgumentAt", fn := fun _ => fun
  | [d1, d2, d3, d4, d5] => { results := [.lit (.bool false)], args := [d1, d2, d3, d4, d5] }
  | _ => none }
def FnExactArgumentAtWrongFalsely : Prop := fnExactArgumentAtRow.holds Try.pinned (OpenSpec.ofChange fnExactArgumentAtWrong)

/-- 'laws.FnExactDrawdownAt': WHATEVER THE INPUT: true; the input reads as it did. -/
def fnExactDrawdownAtSpec : ChangeSpec := { name := "fnExactDrawdownAt", fn := fun _ => fun
  | [d1, d2, d3, d4, d5] => { results := [.lit (.bool true)], args := [d1, d2, d3, d4, d5] }
  | _ => none }
def fnExactDrawdownAtRow : OpenClaim := { program := "ythklihenghnaeaa", sum := "135c1b9644234c96ecc03e341d8022b104ed25e04f4613a20f963145e1a94049", func := "loop.example/g01288/laws.FnExactDrawdownAt", spec := "fnExactDrawdownAt", unfollowed := true, recurses := true, apart := false }
def FnExactDrawdownAtSaid : Prop := fnExactDrawdownAtRow.holds Try.pinned (OpenSpec.ofChange fnExactDrawdownAtSpec)

/-- ITS FALSE NEIGHBOUR: 'it returns false'. Refute it at one input. -/
def fnExactDrawdownAtWrong : ChangeSpec := { name := "fnExactDrawdownAt", fn := fun _ => fun
  | [d1, d2, d3, d4, d5] => { results := [.lit (.bool false)], args := [d1, d2, d3, d4, d5] }
  | _ => none }
def FnExactDrawdownAtWrongFalsely : Prop := fnExactDrawdownAtRow.holds Try.pinned (OpenSpec.ofChange fnExactDrawdownAtWrong)

/-- 'laws.FnExactRecoveryAt': WHATEVER THE INPUT: true; the input reads as it did. -/
def fnExactRecoveryAtSpec : ChangeSpec := { name := "fnExactRecoveryAt", fn := fun _ => fun
  | [d1, d2, d3, d4, d5, d6] => { results := [.lit (.bool true)], args := [d1, d2, d3, d4, d5, d6] }
  | _ => none }
def fnExactRecoveryAtRow : OpenClaim := { program := "ythklihenghnaeaa", sum := "135c1b9644234c96ecc03e341d8022b104ed25e04f4613a20f963145e1a94049", func := "loop.example/g01288/laws.FnExactRecoveryAt", spec := "fnExactRecoveryAt", unfollowed := true, recurses := true, apart := false }
def FnExactRecoveryAtSaid : Prop := fnExactRecoveryAtRow.holds Try.pinned (OpenSpec.ofChange fnExactRecoveryAtSpec)

/-- ITS FALSE NEIGHBOUR: 'it returns false'. Refute it at one input. -/
def fnExactRecoveryAtWrong : ChangeSpec := { name := "fnExactRecoveryAt", fn := fun _ => fun
  | [d1, d2, d3, d4, d5, d6] => { results := [.lit (.bool false)], args := [d1, d2, d3, d4, d5, d6] }
  | _ => none }
def FnExactRecoveryAtWrongFalsely : Prop := fnExactRecoveryAtRow.holds Try.pinned (OpenSpec.ofChange fnExactRecoveryAtWrong)

/-- 'laws.FnExactTimeUntil': WHATEVER THE INPUT: true; the input reads as it did. -/
def fnExactTimeUntilSpec : ChangeSpec := { name := "fnExactTimeUntil", fn := fun _ => fun
  | [d1, d2, d3, d4, d5, d6] => { results := [.lit (.bool true)], args := [d1, d2, d3, d4, d5, d6] }
  | _ => none }
def fnExactTimeUntilRow : OpenClaim := { program := "ythklihenghnaeaa", sum := "135c1b9644234c96ecc03e341d8022b104ed25e04f4613a20f963145e1a94049", func := "loop.example/g01288/laws.FnExactTimeUntil", spec := "fnExactTimeUntil", unfollowed := true, recurses := true, apart := false }
def FnExactTimeUntilSaid : Prop := fnExactTimeUntilRow.holds Try.pinned (OpenSpec.ofChange fnExactTimeUntilSpec)

/-- ITS FALSE NEIGHBOUR: 'it returns false'. Refute it at one input. -/
def fnExactTimeUntilWrong : ChangeSpec := { name := "fnExactTimeUntil", fn := fun _ => fun
  | [d1, d2, d3, d4, d5, d6] => { results := [.lit (.bool false)], args := [d1, d2, d3, d4, d5, d6] }
  | _ => none }
def FnExactTimeUntilWrongFalsely : Prop := fnExactTimeUntilRow.holds Try.pinned (OpenSpec.ofChange fnExactTimeUntilWrong)

/-- 'laws.FnExactRadiusOf': WHATEVER THE INPUT: true; the input reads as it did. -/
def fnExactRadiusOfSpec : ChangeSpec := { name := "fnExactRadiusOf", fn := fun _ => fun
  | [d1, d2, d3, d4] => { results := [.lit (.bool true)], args := [d1, d2, d3, d4] }
  | _ => none }
def fnExactRadiusOfRow : OpenClaim := { program := "ythklihenghnaeaa", sum := "135c1b9644234c96ecc03e341d8022b104ed25e04f4613a20f963145e1a94049", func := "loop.example/g01288/laws.FnExactRadiusOf", spec := "fnExactRadiusOf", unfollowed := true, recurses := true, apart := false }
def FnExactRadiusOfSaid : Prop := fnExactRadiusOfRow.holds Try.pinned (OpenSpec.ofChange fnExactRadiusOfSpec)

/-- ITS FALSE NEIGHBOUR: 'it returns false'. Refute it at one input. -/
def fnExactRadiusOfWrong : ChangeSpec := { name := "fnExactRadiusOf", fn := fun _ => fun
  | [d1, d2, d3, d4] => { results := [.lit (.bool false)], args := [d1, d2, d3, d4] }
  | _ => none }
def FnExactRadiusOfWrongFalsely : Prop := fnExactRadiusOfRow.holds Try.pinned (OpenSpec.ofChange fnExactRadiusOfWrong)

/-- 'laws.FnExactLoggerOf': WHATEVER THE INPUT: true; the input reads as it did. -/
def fnExactLoggerOfSpec : ChangeSpec := { name := "fnExactLoggerOf", fn := fun _ => fun
  | [d] => { results := [.lit (.bool true)], args := [d] }
  | _ => none }
def fnExactLoggerOfRow : OpenClaim := { program := "ythklihenghnaeaa", sum := "135c1b9644234c96ecc03e341d8022b104ed25e04f4613a20f963145e1a94049", func := "loop.example/g01288/laws.FnExactLoggerOf", spec := "fnExactLoggerOf", apart := false }
def FnExactLoggerOfSaid : Prop := fnExactLoggerOfRow.holds Try.pinned (OpenSpec.ofChange fnExactLoggerOfSpec)

/-- ITS FALSE NEIGHBOUR: 'it returns false'. Refute it at one input. -/
def fnExactLoggerOfWrong : ChangeSpec := { name := "fnExactLoggerOf", fn := fun _ => fun
  | [d] => { results := [.lit (.bool false)], args := [d] }
  | _ => none }
def FnExactLoggerOfWrongFalsely : Prop := fnExactLoggerOfRow.holds Try.pinned (OpenSpec.ofChange fnExactLoggerOfWrong)

/-- 'laws.FnExactLevelOf': WHATEVER THE INPUT: true; the input reads as it did. -/
def fnExactLevelOfSpec : ChangeSpec := { name := "fnExactLevelOf", fn := fun _ => fun
  | [d] => { results := [.lit (.bool true)], args := [d] }
  | _ => none }
def fnExactLevelOfRow : OpenClaim := { program := "ythklihenghnaeaa", sum := "135c1b9644234c96ecc03e341d8022b104ed25e04f4613a20f963145e1a94049", func := "loop.example/g01288/laws.FnExactLevelOf", spec := "fnExactLevelOf", apart := false }
def FnExactLevelOfSaid : Prop := fnExactLevelOfRow.holds Try.pinned (OpenSpec.ofChange fnExactLevelOfSpec)

/-- ITS FALSE NEIGHBOUR: 'it returns false'. Refute it at one input. -/
def fnExactLevelOfWrong : ChangeSpec := { name := "fnExactLevelOf", fn := fun _ => fun
  | [d] => { results := [.lit (.bool false)], args := [d] }
  | _ => none }
def FnExactLevelOfWrongFalsely : Prop := fnExactLevelOfRow.holds Try.pinned (OpenSpec.ofChange fnExactLevelOfWrong)

/-- 'laws.FnExactValidReadings': WHATEVER THE INPUT: true; the input reads as it did. -/
def fnExactValidReadingsSpec : ChangeSpec := { name := "fnExactValidReadings", fn := fun _ => fun
  | [d] => { results := [.lit (.bool true)], args := [d] }
  | _ => none }
def fnExactValidReadingsRow : OpenClaim := { program := "ythklihenghnaeaa", sum := "135c1b9644234c96ecc03e341d8022b104ed25e04f4613a20f963145e1a94049", func := "loop.example/g01288/laws.FnExactValidReadings", spec := "fnExactValidReadings", apart := false }
def FnExactValidReadingsSaid : Prop := fnExactValidReadingsRow.holds Try.pinned (OpenSpec.ofChange fnExactValidReadingsSpec)

/-- ITS FALSE NEIGHBOUR: 'it returns false'. Refute it at one input. -/
def fnExactValidReadingsWrong : ChangeSpec := { name := "fnExactValidReadings", fn := fun _ => fun
  | [d] => { results := [.lit (.bool false)], args := [d] }
  | _ => none }
def FnExactValidReadingsWrongFalsely : Prop := fnExactValidReadingsRow.holds Try.pinned (OpenSpec.ofChange fnExactValidReadingsWrong)

/-- 'laws.FnExactSameReadings': WHATEVER THE INPUT: true; the input reads as it did. -/
def fnExactSameReadingsSpec : ChangeSpec := { name := "fnExactSameReadings", fn := fun _ => fun
  | [d1, d2] => { results := [.lit (.bool true)], args := [d1, d2] }
  | _ => none }
def fnExactSameReadingsRow : OpenClaim := { program := "ythklihenghnaeaa", sum := "135c1b9644234c96ecc03e341d8022b104ed25e04f4613a20f963145e1a94049", func := "loop.example/g01288/laws.FnExactSameReadings", spec := "fnExactSameReadings", apart := false }
def FnExactSameReadingsSaid : Prop := fnExactSameReadingsRow.holds Try.pinned (OpenSpec.ofChange fnExactSameReadingsSpec)

/-- ITS FALSE NEIGHBOUR: 'it returns false'. Refute it at one input. -/
def fnExactSameReadingsWrong : ChangeSpec := { name := "fnExactSameReadings", fn := fun _ => fun
  | [d1, d2] => { results := [.lit (.bool false)], args := [d1, d2] }
  | _ => none }
def FnExactSameReadingsWrongFalsely : Prop := fnExactSameReadingsRow.holds Try.pinned (OpenSpec.ofChange fnExactSameReadingsWrong)

/-- 'laws.FnExactValidSite': WHATEVER THE INPUT: true; the input reads as it did. -/
def fnExactValidSiteSpec : ChangeSpec := { name := "fnExactValidSite", fn := fun _ => fun
  | [d] => { results := [.lit (.bool true)], args := [d] }
  | _ => none }
def fnExactValidSiteRow : OpenClaim := { program := "ythklihenghnaeaa", sum := "135c1b9644234c96ecc03e341d8022b104ed25e04f4613a20f963145e1a94049", func := "loop.example/g01288/laws.FnExactValidSite", spec := "fnExactValidSite", apart := false }
def FnExactValidSiteSaid : Prop := fnExactValidSiteRow.holds Try.pinned (OpenSpec.ofChange fnExactValidSiteSpec)

/-- ITS FALSE NEIGHBOUR: 'it returns false'. Refute it at one input. -/
def fnExactValidSiteWrong : ChangeSpec := { name := "fnExactValidSite", fn := fun _ => fun
  | [d] => { results := [.lit (.bool false)], args := [d] }
  | _ => none }
def FnExactValidSiteWrongFalsely : Prop := fnExactValidSiteRow.holds Try.pinned (OpenSpec.ofChange fnExactValidSiteWrong)

/- THE SECOND FORM. 'bulk': how many values and letters a reading holds, each counted each time it is reached (what is shared counts as often as it is met; a slice's spare places count too). A statement '..UptoSaid' is the law's where the arguments, and the package variables that the reading takes, are together of bulk at most 1048576: NARROWER than '..Said'. Prove '..Said' where nothing that the law and all that it calls make is longer than what came in: it says more and counts as full. Else prove '..UptoSaid'. A law counts once. -/
mutual
def uptoBulk {H : Type} : DataW H → Nat
  | .lit (.string bytes) => bytes.length + 1
  | .lit _ => 1
  | .nil => 1
  | .ptr d => uptoBulk d + 1
  | .slice elems spare => uptoBulkAll elems + uptoBulkAll spare + 1
  | .agg parts => uptoBulkAll parts + 1
  | .iface _ d => uptoBulk d + 1
  | .map entries => uptoBulkEntries entries + 1
  | .held _ => 1
def uptoBulkAll {H : Type} : List (DataW H) → Nat
  | [] => 0
  | d :: r => uptoBulk d + uptoBulkAll r
def uptoBulkEntries {H : Type} : List (Lit × DataW H) → Nat
  | [] => 0
  | x :: r => uptoBulkEntry x + uptoBulkEntries r
def uptoBulkEntry {H : Type} : Lit × DataW H → Nat
  | (.string bytes, d) => bytes.length + uptoBulk d + 1
  | (_, d) => uptoBulk d + 1
 end
def uptoSmall : (H : Type) → List (DataW H) → Bool := fun _ ds => decide (uptoBulkAll ds ≤ 1048576)
def OpenSpec.upto (s : _root_.Go.ChangeSpec) : _root_.Go.OpenSpec := { _root_.Go.OpenSpec.ofChange s with cond := some uptoSmall }

/-- 'laws.FnReach', WHERE WHAT IT READS IS OF BULK AT MOST 1048576: true; the input reads as it did. -/
def fnReachUptoRow : OpenClaim := { program := "ythklihenghnaeaa", sum := "135c1b9644234c96ecc03e341d8022b104ed25e04f4613a20f963145e1a94049", func := "loop.example/g01288/laws.FnReach", spec := "fnReach", unfollowed := true, recurses := true, apart := false, narrowed := true }
def FnReachUptoSaid : Prop := fnReachUptoRow.holds Try.pinned (OpenSpec.upto fnReachSpec)

/-- 'laws.FnExactValidAquifer', WHERE WHAT IT READS IS OF BULK AT MOST 1048576: true; the input reads as it did. -/
def fnExactValidAquiferUptoRow : OpenClaim := { program := "ythklihenghnaeaa", sum := "135c1b9644234c96ecc03e341d8022b104ed25e04f4613a20f963145e1a94049", func := "loop.example/g01288/laws.FnExactValidAquifer", spec := "fnExactValidAquifer", apart := false, narrowed := true }
def FnExactValidAquiferUptoSaid : Prop := fnExactValidAquiferUptoRow.holds Try.pinned (OpenSpec.upto fnExactValidAquiferSpec)

/-- 'laws.FnExactArgumentAt', WHERE WHAT IT READS IS OF BULK AT MOST 1048576: true; the input reads as it did. -/
def fnExactArgumentAtUptoRow : OpenClaim := { program := "ythklihenghnaeaa", sum := "135c1b9644234c96ecc03e341d8022b104ed25e04f4613a20f963145e1a94049", func := "loop.example/g01288/laws.FnExactArgumentAt", spec := "fnExactArgumentAt", apart := false, narrowed := true }
def FnExactArgumentAtUptoSaid : Prop := fnExactArgumentAtUptoRow.holds Try.pinned (OpenSpec.upto fnExactArgumentAtSpec)

/-- 'laws.FnExactDrawdownAt', WHERE WHAT IT READS IS OF BULK AT MOST 1048576: true; the input reads as it did. -/
def fnExactDrawdownAtUptoRow : OpenClaim := { program := "ythklihenghnaeaa", sum := "135c1b9644234c96ecc03e341d8022b104ed25e04f4613a20f963145e1a94049", func := "loop.example/g01288/laws.FnExactDrawdownAt", spec := "fnExactDrawdownAt", unfollowed := true, recurses := true, apart := false, narrowed := true }
def FnExactDrawdownAtUptoSaid : Prop := fnExactDrawdownAtUptoRow.holds Try.pinned (OpenSpec.upto fnExactDrawdownAtSpec)

/-- 'laws.FnExactRecoveryAt', WHERE WHAT IT READS IS OF BULK AT MOST 1048576: true; the input reads as it did. -/
def fnExactRecoveryAtUptoRow : OpenClaim := { program := "ythklihenghnaeaa", sum := "135c1b9644234c96ecc03e341d8022b104ed25e04f4613a20f963145e1a94049", func := "loop.example/g01288/laws.FnExactRecoveryAt", spec := "fnExactRecoveryAt", unfollowed := true, recurses := true, apart := false, narrowed := true }
def FnExactRecoveryAtUptoSaid : Prop := fnExactRecoveryAtUptoRow.holds Try.pinned (OpenSpec.upto fnExactRecoveryAtSpec)

/-- 'laws.FnExactTimeUntil', WHERE WHAT IT READS IS OF BULK AT MOST 1048576: true; the input reads as it did. -/
def fnExactTimeUntilUptoRow : OpenClaim := { program := "ythklihenghnaeaa", sum := "135c1b9644234c96ecc03e341d8022b104ed25e04f4613a20f963145e1a94049", func := "loop.example/g01288/laws.FnExactTimeUntil", spec := "fnExactTimeUntil", unfollowed := true, recurses := true, apart := false, narrowed := true }
def FnExactTimeUntilUptoSaid : Prop := fnExactTimeUntilUptoRow.holds Try.pinned (OpenSpec.upto fnExactTimeUntilSpec)

/-- 'laws.FnExactRadiusOf', WHERE WHAT IT READS IS OF BULK AT MOST 1048576: true; the input reads as it did. -/
def fnExactRadiusOfUptoRow : OpenClaim := { program := "ythklihenghnaeaa", sum := "135c1b9644234c96ecc03e341d8022b104ed25e04f4613a20f963145e1a94049", func := "loop.example/g01288/laws.FnExactRadiusOf", spec := "fnExactRadiusOf", unfollowed := true, recurses := true, apart := false, narrowed := true }
def FnExactRadiusOfUptoSaid : Prop := fnExactRadiusOfUptoRow.holds Try.pinned (OpenSpec.upto fnExactRadiusOfSpec)

/-- 'laws.FnExactLoggerOf', WHERE WHAT IT READS IS OF BULK AT MOST 1048576: true; the input reads as it did. -/
def fnExactLoggerOfUptoRow : OpenClaim := { program := "ythklihenghnaeaa", sum := "135c1b9644234c96ecc03e341d8022b104ed25e04f4613a20f963145e1a94049", func := "loop.example/g01288/laws.FnExactLoggerOf", spec := "fnExactLoggerOf", apart := false, narrowed := true }
def FnExactLoggerOfUptoSaid : Prop := fnExactLoggerOfUptoRow.holds Try.pinned (OpenSpec.upto fnExactLoggerOfSpec)

/-- 'laws.FnExactLevelOf', WHERE WHAT IT READS IS OF BULK AT MOST 1048576: true; the input reads as it did. -/
def fnExactLevelOfUptoRow : OpenClaim := { program := "ythklihenghnaeaa", sum := "135c1b9644234c96ecc03e341d8022b104ed25e04f4613a20f963145e1a94049", func := "loop.example/g01288/laws.FnExactLevelOf", spec := "fnExactLevelOf", apart := false, narrowed := true }
def FnExactLevelOfUptoSaid : Prop := fnExactLevelOfUptoRow.holds Try.pinned (OpenSpec.upto fnExactLevelOfSpec)

/-- 'laws.FnExactValidReadings', WHERE WHAT IT READS IS OF BULK AT MOST 1048576: true; the input reads as it did. -/
def fnExactValidReadingsUptoRow : OpenClaim := { program := "ythklihenghnaeaa", sum := "135c1b9644234c96ecc03e341d8022b104ed25e04f4613a20f963145e1a94049", func := "loop.example/g01288/laws.FnExactValidReadings", spec := "fnExactValidReadings", apart := false, narrowed := true }
def FnExactValidReadingsUptoSaid : Prop := fnExactValidReadingsUptoRow.holds Try.pinned (OpenSpec.upto fnExactValidReadingsSpec)

/-- 'laws.FnExactSameReadings', WHERE WHAT IT READS IS OF BULK AT MOST 1048576: true; the input reads as it did. -/
def fnExactSameReadingsUptoRow : OpenClaim := { program := "ythklihenghnaeaa", sum := "135c1b9644234c96ecc03e341d8022b104ed25e04f4613a20f963145e1a94049", func := "loop.example/g01288/laws.FnExactSameReadings", spec := "fnExactSameReadings", apart := false, narrowed := true }
def FnExactSameReadingsUptoSaid : Prop := fnExactSameReadingsUptoRow.holds Try.pinned (OpenSpec.upto fnExactSameReadingsSpec)

/-- 'laws.FnExactValidSite', WHERE WHAT IT READS IS OF BULK AT MOST 1048576: true; the input reads as it did. -/
def fnExactValidSiteUptoRow : OpenClaim := { program := "ythklihenghnaeaa", sum := "135c1b9644234c96ecc03e341d8022b104ed25e04f4613a20f963145e1a94049", func := "loop.example/g01288/laws.FnExactValidSite", spec := "fnExactValidSite", apart := false, narrowed := true }
def FnExactValidSiteUptoSaid : Prop := fnExactValidSiteUptoRow.holds Try.pinned (OpenSpec.upto fnExactValidSiteSpec)

end Rows
end Go.Proofs.Ythklihenghnaeaa
