/-
  No cell of these rows narrows 'for every input' (looked for: loops, veiled, ifaces, maps, wideKeys, modest, calm, conditions, laid).
  DERIVED. THE GIVEN ROWS OF THIS SEAT. 12 by the template 'for every input the law returns true; each argument reads behind the call as it read before'; 0 by the template 'total and deterministic' (their statements: YtoeajnpailgljaaTotals.lean).
  GIVEN WITH THE SEED: the statements are not yours to turn. If you find one false, say at which input.
  Laid BY PROGRAM, IN A SANDBOX (cutbox-rows.mjs): the forced cells as the released guide's own fill.sh prints them over the translation e910b6a62bdef684… (all of the seat's roots in one cut). By AI agents, Wed Nov 11 2026. No macro, syntax, notation, axiom, sorry.
-/
import Derived.Test.YtoeajnpailgljaaChecked
import GoSem.Claim
import GoSem.ClaimJoined
import GoSem.ClaimMapViews
import Derived.JoinedTies
import Derived.KernelRfl
namespace Go.Proofs.Ytoeajnpailgljaa
/- THE CELL 'sum', in the pinned program and in every row, IS THE sha256 OF THE DUMP (.gsa) THAT YtoeajnpailgljaaProg.lean LOADS. Nothing in Lean hashes anything: it is a label: what it is worth is what the hold of that sum in a sandbox is worth. -/
noncomputable def Try.pinned : Pinned := { name := "ytoeajnpailgljaa", sum := "e910b6a62bdef6841e58c0e14fb06010a61199174bbc120f7f49af45ebc015b6", checked := Try.checked }
namespace Rows
def none {H : Type} : Left H := { results := [], args := [] }

/-- 'laws.FnSeries': WHATEVER THE INPUT: true; the input reads as it did. -/
def fnSeriesSpec : ChangeSpec := { name := "fnSeries", fn := fun _ => fun
  | [d1, d2] => { results := [.lit (.bool true)], args := [d1, d2] }
  | _ => none }
def fnSeriesRow : OpenClaim := { program := "ytoeajnpailgljaa", sum := "e910b6a62bdef6841e58c0e14fb06010a61199174bbc120f7f49af45ebc015b6", func := "loop.example/g01288/laws.FnSeries", spec := "fnSeries", inPlace := ["math.Float32bits"], unfollowed := true, recurses := true, apart := false }
def FnSeriesSaid : Prop := fnSeriesRow.holds Try.pinned (OpenSpec.ofChange fnSeriesSpec)

/-- ITS FALSE NEIGHBOUR: 'it returns false'. Refute it at one input. -/
def fnSeriesWrong : ChangeSpec := { name := "fnSeries", fn := fun _ => fun
  | [d1, d2] => { results := [.lit (.bool false)], args := [d1, d2] }
  | _ => none }
def FnSeriesWrongFalsely : Prop := fnSeriesRow.holds Try.pinned (OpenSpec.ofChange fnSeriesWrong)

/-- 'laws.FnReach': WHATEVER THE INPUT: true; the input reads as it did. -/
def fnReachSpec : ChangeSpec := { name := "fnReach", fn := fun _ => fun
  | [d1, d2] => { results := [.lit (.bool true)], args := [d1, d2] }
  | _ => none }
def fnReachRow : OpenClaim := { program := "ytoeajnpailgljaa", sum := "e910b6a62bdef6841e58c0e14fb06010a61199174bbc120f7f49af45ebc015b6", func := "loop.example/g01288/laws.FnReach", spec := "fnReach", unfollowed := true, recurses := true, apart := false }
def FnReachSaid : Prop := fnReachRow.holds Try.pinned (OpenSpec.ofChange fnReachSpec)

/-- ITS FALSE NEIGHBOUR: 'it returns false'. Refute it at one input. -/
def fnReachWrong : ChangeSpec := { name := "fnReach", fn := fun _ => fun
  | [d1, d2] => { results := [.lit (.bool false)], args := [d1, d2] }
  | _ => none }
def FnReachWrongFalsely : Prop := fnReachRow.holds Try.pinned (OpenSpec.ofChange fnReachWrong)

/-- 'laws.FnExactValidAquifer': WHATEVER THE INPUT: true; the input reads as it did. -/
def fnExactValidAquiferSpec : ChangeSpec := { name := "fnExactValidAquifer", fn := fun _ => fun
  | [d] => { results := [.lit (.bool true)], args := [d] }
  | _ => none }
def fnExactValidAquiferRow : OpenClaim := { program := "ytoeajnpailgljaa", sum := "e910b6a62bdef6841e58c0e14fb06010a61199174bbc120f7f49af45ebc015b6", func := "loop.example/g01288/laws.FnExactValidAquifer", spec := "fnExactValidAquifer", apart := false }
def FnExactValidAquiferSaid : Prop := fnExactValidAquiferRow.holds Try.pinned (OpenSpec.ofChange fnExactValidAquiferSpec)

/-- ITS FALSE NEIGHBOUR: 'it returns false'. Refute it at one input. -/
def fnExactValidAquiferWrong : ChangeSpec := { name := "fnExactValidAquifer", fn := fun _ => fun
  | [d] => { results := [.lit (.bool false)], args := [d] }
  | _ => none }
def FnExactValidAquiferWrongFalsely : Prop := fnExactValidAquiferRow.holds Try.pinned (OpenSpec.ofChange fnExactValidAquiferWrong)

/-- 'laws.FnExactValidWell': WHATEVER THE INPUT: true; the input reads as it did. -/
def fnExactValidWellSpec : ChangeSpec := { name := "fnExactValidWell", fn := fun _ => fun
  | [d] => { results := [.lit (.bool true)], args := [d] }
  | _ => none }
def fnExactValidWellRow : OpenClaim := { program := "ytoeajnpailgljaa", sum := "e910b6a62bdef6841e58c0e14fb06010a61199174bbc120f7f49af45ebc015b6", func := "loop.example/g01288/laws.FnExactValidWell", spec := "fnExactValidWell", apart := false }
def FnExactValidWellSaid : Prop := fnExactValidWellRow.holds Try.pinned (OpenSpec.ofChange fnExactValidWellSpec)

/-- ITS FALSE NEIGHBOUR: 'it returns false'. Refute it at one input. -/
def fnExactValidWellWrong : ChangeSpec := { name := "fnExactValidWell", fn := fun _ => fun
  | [d] => { results := [.lit (.bool false)], args := [d] }
  | _ => none }
def FnExactValidWellWrongFalsely : Prop := fnExactValidWellRow.holds Try.pinned (OpenSpec.ofChange fnExactValidWellWrong)

/-- 'laws.FnExactSameWells': WHATEVER THE INPUT: true; the input reads as it did. -/
def fnExactSameWellsSpec : ChangeSpec := { name := "fnExactSameWells", fn := fun _ => fun
  | [d1, d2] => { results := [.lit (.bool true)], args := [d1, d2] }
  | _ => none }
def fnExactSameWellsRow : OpenClaim := { program := "ytoeajnpailgljaa", sum := "e910b6a62bdef6841e58c0e14fb06010a61199174bbc120f7f49af45ebc015b6", func := "loop.example/g01288/laws.FnExactSameWells", spec := "fnExactSameWells", inPlace := ["math.Float32bits"], apart := false }
def FnExactSameWellsSaid : Prop := fnExactSameWellsRow.holds Try.pinned (OpenSpec.ofChange fnExactSameWellsSpec)

/-- ITS FALSE NEIGHBOUR: 'it returns false'. Refute it at one input. -/
def fnExactSameWellsWrong : ChangeSpec := { name := "fnExactSameWells", fn := fun _ => fun
  | [d1, d2] => { results := [.lit (.bool false)], args := [d1, d2] }
  | _ => none }
def FnExactSameWellsWrongFalsely : Prop := fnExactSameWellsRow.holds Try.pinned (OpenSpec.ofChange fnExactSameWellsWrong)

/-- 'laws.FnExactArgumentAt': WHATEVER THE INPUT: true; the input reads as it did. -/
def fnExactArgumentAtSpec : ChangeSpec := { name := "fnExactArgumentAt", fn := fun _ => fun
  | [d1, d2, d3, d4, d5] => { results := [.lit (.bool true)], args := [d1, d2, d3, d4, d5] }
  | _ => none }
def fnExactArgumentAtRow : OpenClaim := { program := "ytoeajnpailgljaa", sum := "e910b6a62bdef6841e58c0e14fb06010a61199174bbc120f7f49af45ebc015b6", func := "loop.example/g01288/laws.FnExactArgumentAt", spec := "fnExactArgumentAt", apart := false }
def FnExactArgumentAtSaid : Prop := fnExactArgumentAtRow.holds Try.pinned (OpenSpec.ofChange fnExactArgumentAtSpec)

/-- ITS FALSE NEIGHBOUR: 'it returns false'. Refute it at one input. -/
def fnExactArgumentAtWrong : ChangeSpec := { name := "fnExactArgumentAt", fn := fun _ => fun
  | [d1, d2, d3, d4, d5] => { results := [.lit (.bool false)], args := [d1, d2, d3, d4, d5] }
  | _ => none }
def FnExactArgumentAtWrongFalsely : Prop := fnExactArgumentAtRow.holds Try.pinned (OpenSpec.ofChange fnExactArgumentAtWrong)

/-- 'laws.FnExactDrawdownAt': WHATEVER THE INPUT: true; the input reads as it did. -/
def fnExactDrawdownAtSpec : ChangeSpec := { name := "fnExactDrawdownAt", fn := fun _ => fun
  | [d1, d2, d3, d4, d5] => { results := [.lit (.bool true)], args := [d1, d2, d3, d4, d5] }
  | _ => none }
def fnExactDrawdownAtRow : OpenClaim := { program := "ytoeajnpailgljaa", sum := "e910b6a62bdef6841e58c0e14fb06010a61199174bbc120f7f49af45ebc015b6", func := "loop.example/g01288/laws.FnExactDrawdownAt", spec := "fnExactDrawdownAt", unfollowed := true, recurses := true, apart := false }
def FnExactDrawdownAtSaid : Prop := fnExactDrawdownAtRow.holds Try.pinned (OpenSpec.ofChange fnExactDrawdownAtSpec)

/-- ITS FALSE NEIGHBOUR: 'it returns false'. Refute it at one input. -/
def fnExactDrawdownAtWrong : ChangeSpec := { name := "fnExactDrawdownAt", fn := fun _ => fun
  | [d1, d2, d3, d4, d5] => { results := [.lit (.bool false)], args := [d1, d2, d3, d4, d5] }
  | _ => none }
def FnExactDrawdownAtWrongFalsely : Prop := fnExactDrawdownAtRow.holds Try.pinned (OpenSpec.ofChange fnExactDrawdownAtWrong)

/-- 'laws.FnExactImageOf': WHATEVER THE INPUT: true; the input reads as it did. -/
def fnExactImageOfSpec : ChangeSpec := { name := "fnExactImageOf", fn := fun _ => fun
  | [d1, d2, d3] => { results := [.lit (.bool true)], args := [d1, d2, d3] }
  | _ => none }
def fnExactImageOfRow : OpenClaim := { program := "ytoeajnpailgljaa", sum := "e910b6a62bdef6841e58c0e14fb06010a61199174bbc120f7f49af45ebc015b6", func := "loop.example/g01288/laws.FnExactImageOf", spec := "fnExactImageOf", apart := false }
def FnExactImageOfSaid : Prop := fnExactImageOfRow.holds Try.pinned (OpenSpec.ofChange fnExactImageOfSpec)

/-- ITS FALSE NEIGHBOUR: 'it returns false'. Refute it at one input. -/
def fnExactImageOfWrong : ChangeSpec := { name := "fnExactImageOf", fn := fun _ => fun
  | [d1, d2, d3] => { results := [.lit (.bool false)], args := [d1, d2, d3] }
  | _ => none }
def FnExactImageOfWrongFalsely : Prop := fnExactImageOfRow.holds Try.pinned (OpenSpec.ofChange fnExactImageOfWrong)

/-- 'laws.FnExactRecoveryAt': WHATEVER THE INPUT: true; the input reads as it did. -/
def fnExactRecoveryAtSpec : ChangeSpec := { name := "fnExactRecoveryAt", fn := fun _ => fun
  | [d1, d2, d3, d4, d5, d6] => { results := [.lit (.bool true)], args := [d1, d2, d3, d4, d5, d6] }
  | _ => none }
def fnExactRecoveryAtRow : OpenClaim := { program := "ytoeajnpailgljaa", sum := "e910b6a62bdef6841e58c0e14fb06010a61199174bbc120f7f49af45ebc015b6", func := "loop.example/g01288/laws.FnExactRecoveryAt", spec := "fnExactRecoveryAt", unfollowed := true, recurses := true, apart := false }
def FnExactRecoveryAtSaid : Prop := fnExactRecoveryAtRow.holds Try.pinned (OpenSpec.ofChange fnExactRecoveryAtSpec)

/-- ITS FALSE NEIGHBOUR: 'it returns false'. Refute it at one input. -/
def fnExactRecoveryAtWrong : ChangeSpec := { name := "fnExactRecoveryAt", fn := fun _ => fun
  | [d1, d2, d3, d4, d5, d6] => { results := [.lit (.bool false)], args := [d1, d2, d3, d4, d5, d6] }
  | _ => none }
def FnExactRecoveryAtWrongFalsely : Prop := fnExactRecoveryAtRow.holds Try.pinned (OpenSpec.ofChange fnExactRecoveryAtWrong)

/-- 'laws.FnExactTimeUntil': WHATEVER THE INPUT: true; the input reads as it did. -/
def fnExactTimeUntilSpec : ChangeSpec := { name := "fnExactTimeUntil", fn := fun _ => fun
  | [d1, d2, d3, d4, d5, d6] => { results := [.lit (.bool true)], args := [d1, d2, d3, d4, d5, d6] }
  | _ => none }
def fnExactTimeUntilRow : OpenClaim := { program := "ytoeajnpailgljaa", sum := "e910b6a62bdef6841e58c0e14fb06010a61199174bbc120f7f49af45ebc015b6", func := "loop.example/g01288/laws.FnExactTimeUntil", spec := "fnExactTimeUntil", unfollowed := true, recurses := true, apart := false }
def FnExactTimeUntilSaid : Prop := fnExactTimeUntilRow.holds Try.pinned (OpenSpec.ofChange fnExactTimeUntilSpec)

/-- ITS FALSE NEIGHBOUR: 'it returns false'. Refute it at one input. -/
def fnExactTimeUntilWrong : ChangeSpec := { name := "fnExactTimeUntil", fn := fun _ => fun
  | [d1, d2, d3, d4, d5, d6] => { results := [.lit (.bool false)], args := [d1, d2, d3, d4, d5, d6] }
  | _ => none }
def FnExactTimeUntilWrongFalsely : Prop := fnExactTimeUntilRow.holds Try.pinned (OpenSpec.ofChange fnExactTimeUntilWrong)

/-- 'laws.FnExactRadiusOf': WHATEVER THE INPUT: true; the input reads as it did. -/
def fnExactRadiusOfSpec : ChangeSpec := { name := "fnExactRadiusOf", fn := fun _ => fun
  | [d1, d2, d3, d4] => { results := [.lit (.bool true)], args := [d1, d2, d3, d4] }
  | _ => none }
def fnExactRadiusOfRow : OpenClaim := { program := "ytoeajnpailgljaa", sum := "e910b6a62bdef6841e58c0e14fb06010a61199174bbc120f7f49af45ebc015b6", func := "loop.example/g01288/laws.FnExactRadiusOf", spec := "fnExactRadiusOf", unfollowed := true, recurses := true, apart := false }
def FnExactRadiusOfSaid : Prop := fnExactRadiusOfRow.holds Try.pinned (OpenSpec.ofChange fnExactRadiusOfSpec)

/-- ITS FALSE NEIGHBOUR: 'it returns false'. Refute it at one input. -/
def fnExactRadiusOfWrong : ChangeSpec := { name := "fnExactRadiusOf", fn := fun _ => fun
  | [d1, d2, d3, d4] => { results := [.lit (.bool false)], args := [d1, d2, d3, d4] }
  | _ => none }
def FnExactRadiusOfWrongFalsely : Prop := fnExactRadiusOfRow.holds Try.pinned (OpenSpec.ofChange fnExactRadiusOfWrong)

/-- 'laws.FnExactWithImages': WHATEVER THE INPUT: true; the input reads as it did. -/
def fnExactWithImagesSpec : ChangeSpec := { name := "fnExactWithImages", fn := fun _ => fun
  | [d1, d2, d3] => { results := [.lit (.bool true)], args := [d1, d2, d3] }
  | _ => none }
def fnExactWithImagesRow : OpenClaim := { program := "ytoeajnpailgljaa", sum := "e910b6a62bdef6841e58c0e14fb06010a61199174bbc120f7f49af45ebc015b6", func := "loop.example/g01288/laws.FnExactWithImages", spec := "fnExactWithImages", unfollowed := true, recurses := true, apart := false }
def FnExactWithImagesSaid : Prop := fnExactWithImagesRow.holds Try.pinned (OpenSpec.ofChange fnExactWithImagesSpec)

/-- ITS FALSE NEIGHBOUR: 'it returns false'. Refute it at one input. -/
def fnExactWithImagesWrong : ChangeSpec := { name := "fnExactWithImages", fn := fun _ => fun
  | [d1, d2, d3] => { results := [.lit (.bool false)], args := [d1, d2, d3] }
  | _ => none }
def FnExactWithImagesWrongFalsely : Prop := fnExactWithImagesRow.holds Try.pinned (OpenSpec.ofChange fnExactWithImagesWrong)

/- THE SECOND FORM. 'bulk': how many values and letters a reading holds, each counted each time it is reached (what is shared counts as often as it is met; a slice's spare places count too). A statement '..UptoSaid' is the law's where the arguments, and the package variables that the reading takes, are together of bulk at most 1048576: NARROWER than '..Said'. Prove '..Said' where nothing that the law and all that it calls make is longer than what came in: it says more and counts as full. Else prove '..UptoSaid'. A law counts once. -/
mutual
def uptoBulk {H : Type} : DataW H → Nat
  | .lit (.string bytes) => bytes.length + 1
  | .lit _ => 1
  | .nil => 1
  | .ptr d => uptoBulk d + 1
  | .slice elems spare => uptoBulkAll elems + uptoBulkAll spare + 1
  | .agg parts => uptoBulkAll parts + 1
  | .iface _ d => uptoBulk d + 1
  | .map entries => uptoBulkEntries entries + 1
  | .held _ => 1
def uptoBulkAll {H : Type} : List (DataW H) → Nat
  | [] => 0
  | d :: r => uptoBulk d + uptoBulkAll r
def uptoBulkEntries {H : Type} : List (Lit × DataW H) → Nat
  | [] => 0
  | x :: r => uptoBulkEntry x + uptoBulkEntries r
def uptoBulkEntry {H : Type} : Lit × DataW H → Nat
  | (.string bytes, d) => bytes.length + uptoBulk d + 1
  | (_, d) => uptoBulk d + 1
 end
def uptoSmall : (H : Type) → List (DataW H) → Bool := fun _ ds => decide (uptoBulkAll ds ≤ 1048576)
def OpenSpec.upto (s : _root_.Go.ChangeSpec) : _root_.Go.OpenSpec := { _root_.Go.OpenSpec.ofChange s with cond := some uptoSmall }

/-- 'laws.FnSeries', WHERE WHAT IT READS IS OF BULK AT MOST 1048576: true; the input reads as it did. -/
def fnSeriesUptoRow : OpenClaim := { program := "ytoeajnpailgljaa", sum := "e910b6a62bdef6841e58c0e14fb06010a61199174bbc120f7f49af45ebc015b6", func := "loop.example/g01288/laws.FnSeries", spec := "fnSeries", inPlace := ["math.Float32bits"], unfollowed := true, recurses := true, apart := false, narrowed := true }
def FnSeriesUptoSaid : Prop := fnSeriesUptoRow.holds Try.pinned (OpenSpec.upto fnSeriesSpec)

/-- 'laws.FnReach', WHERE WHAT IT READS IS OF BULK AT MOST 1048576: true; the input reads as it did. -/
def fnReachUptoRow : OpenClaim := { program := "ytoeajnpailgljaa", sum := "e910b6a62bdef6841e58c0e14fb06010a61199174bbc120f7f49af45ebc015b6", func := "loop.example/g01288/laws.FnReach", spec := "fnReach", unfollowed := true, recurses := true, apart := false, narrowed := true }
def FnReachUptoSaid : Prop := fnReachUptoRow.holds Try.pinned (OpenSpec.upto fnReachSpec)

/-- 'laws.FnExactValidAquifer', WHERE WHAT IT READS IS OF BULK AT MOST 1048576: true; the input reads as it did. -/
def fnExactValidAquiferUptoRow : OpenClaim := { program := "ytoeajnpailgljaa", sum := "e910b6a62bdef6841e58c0e14fb06010a61199174bbc120f7f49af45ebc015b6", func := "loop.example/g01288/laws.FnExactValidAquifer", spec := "fnExactValidAquifer", apart := false, narrowed := true }
def FnExactValidAquiferUptoSaid : Prop := fnExactValidAquiferUptoRow.holds Try.pinned (OpenSpec.upto fnExactValidAquiferSpec)

/-- 'laws.FnExactValidWell', WHERE WHAT IT READS IS OF BULK AT MOST 1048576: true; the input reads as it did. -/
def fnExactValidWellUptoRow : OpenClaim := { program := "ytoeajnpailgljaa", sum := "e910b6a62bdef6841e58c0e14fb06010a61199174bbc120f7f49af45ebc015b6", func := "loop.example/g01288/laws.FnExactValidWell", spec := "fnExactValidWell", apart := false, narrowed := true }
def FnExactValidWellUptoSaid : Prop := fnExactValidWellUptoRow.holds Try.pinned (OpenSpec.upto fnExactValidWellSpec)

/-- 'laws.FnExactSameWells', WHERE WHAT IT READS IS OF BULK AT MOST 1048576: true; the input reads as it did. -/
def fnExactSameWellsUptoRow : OpenClaim := { program := "ytoeajnpailgljaa", sum := "e910b6a62bdef6841e58c0e14fb06010a61199174bbc120f7f49af45ebc015b6", func := "loop.example/g01288/laws.FnExactSameWells", spec := "fnExactSameWells", inPlace := ["math.Float32bits"], apart := false, narrowed := true }
def FnExactSameWellsUptoSaid : Prop := fnExactSameWellsUptoRow.holds Try.pinned (OpenSpec.upto fnExactSameWellsSpec)

/-- 'laws.FnExactArgumentAt', WHERE WHAT IT READS IS OF BULK AT MOST 1048576: true; the input reads as it did. -/
def fnExactArgumentAtUptoRow : OpenClaim := { program := "ytoeajnpailgljaa", sum := "e910b6a62bdef6841e58c0e14fb06010a61199174bbc120f7f49af45ebc015b6", func := "loop.example/g01288/laws.FnExactArgumentAt", spec := "fnExactArgumentAt", apart := false, narrowed := true }
def FnExactArgumentAtUptoSaid : Prop := fnExactArgumentAtUptoRow.holds Try.pinned (OpenSpec.upto fnExactArgumentAtSpec)

/-- 'laws.FnExactDrawdownAt', WHERE WHAT IT READS IS OF BULK AT MOST 1048576: true; the input reads as it did. -/
def fnExactDrawdownAtUptoRow : OpenClaim := { program := "ytoeajnpailgljaa", sum := "e910b6a62bdef6841e58c0e14fb06010a61199174bbc120f7f49af45ebc015b6", func := "loop.example/g01288/laws.FnExactDrawdownAt", spec := "fnExactDrawdownAt", unfollowed := true, recurses := true, apart := false, narrowed := true }
def FnExactDrawdownAtUptoSaid : Prop := fnExactDrawdownAtUptoRow.holds Try.pinned (OpenSpec.upto fnExactDrawdownAtSpec)

/-- 'laws.FnExactImageOf', WHERE WHAT IT READS IS OF BULK AT MOST 1048576: true; the input reads as it did. -/
def fnExactImageOfUptoRow : OpenClaim := { program := "ytoeajnpailgljaa", sum := "e910b6a62bdef6841e58c0e14fb06010a61199174bbc120f7f49af45ebc015b6", func := "loop.example/g01288/laws.FnExactImageOf", spec := "fnExactImageOf", apart := false, narrowed := true }
def FnExactImageOfUptoSaid : Prop := fnExactImageOfUptoRow.holds Try.pinned (OpenSpec.upto fnExactImageOfSpec)

/-- 'laws.FnExactRecoveryAt', WHERE WHAT IT READS IS OF BULK AT MOST 1048576: true; the input reads as it did. -/
def fnExactRecoveryAtUptoRow : OpenClaim := { program := "ytoeajnpailgljaa", sum := "e910b6a62bdef6841e58c0e14fb06010a61199174bbc120f7f49af45ebc015b6", func := "loop.example/g01288/laws.FnExactRecoveryAt", spec := "fnExactRecoveryAt", unfollowed := true, recurses := true, apart := false, narrowed := true }
def FnExactRecoveryAtUptoSaid : Prop := fnExactRecoveryAtUptoRow.holds Try.pinned (OpenSpec.upto fnExactRecoveryAtSpec)

/-- 'laws.FnExactTimeUntil', WHERE WHAT IT READS IS OF BULK AT MOST 1048576: true; the input reads as it did. -/
def fnExactTimeUntilUptoRow : OpenClaim := { program := "ytoeajnpailgljaa", sum := "e910b6a62bdef6841e58c0e14fb06010a61199174bbc120f7f49af45ebc015b6", func := "loop.example/g01288/laws.FnExactTimeUntil", spec := "fnExactTimeUntil", unfollowed := true, recurses := true, apart := false, narrowed := true }
def FnExactTimeUntilUptoSaid : Prop := fnExactTimeUntilUptoRow.holds Try.pinned (OpenSpec.upto fnExactTimeUntilSpec)

/-- 'laws.FnExactRadiusOf', WHERE WHAT IT READS IS OF BULK AT MOST 1048576: true; the input reads as it did. -/
def fnExactRadiusOfUptoRow : OpenClaim := { program := "ytoeajnpailgljaa", sum := "e910b6a62bdef6841e58c0e14fb06010a61199174bbc120f7f49af45ebc015b6", func := "loop.example/g01288/laws.FnExactRadiusOf", spec := "fnExactRadiusOf", unfollowed := true, recurses := true, apart := false, narrowed := true }
def FnExactRadiusOfUptoSaid : Prop := fnExactRadiusOfUptoRow.holds Try.pinned (OpenSpec.upto fnExactRadiusOfSpec)

/-- 'laws.FnExactWithImages', WHERE WHAT IT READS IS OF BULK AT MOST 1048576: true; the input reads as it did. -/
def fnExactWithImagesUptoRow : OpenClaim := { program := "ytoeajnpailgljaa", sum := "e910b6a62bdef6841e58c0e14fb06010a61199174bbc120f7f49af45ebc015b6", func := "loop.example/g01288/laws.FnExactWithImages", spec := "fnExactWithImages", unfollowed := true, recurses := true, apart := false, narrowed := true }
def FnExactWithImagesUptoSaid : Prop := fnExactWithImagesUptoRow.holds Try.pinned (OpenSpec.upto fnExactWithImagesSpec)

end Rows
end Go.Proofs.Ytoeajnpailgljaa
