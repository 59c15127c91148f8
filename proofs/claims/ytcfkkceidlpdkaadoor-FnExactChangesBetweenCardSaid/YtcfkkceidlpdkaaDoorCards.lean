/-
  DERIVED. GIVEN WITH THE SEED: THE CARDS: each row of YtcfkkceidlpdkaaDoorRows.lean that lists a variable, with what it lists TIED to the program's text (the seventh form; the later family's looks); each row that meets fmt, with fmt's text TOLD by the authors' own Lean function (tested against real Go, not proved from fmt's source: count such statements apart). THE CARD IS WHAT COUNTS. Prove the row's statement (the work); the ties are given (YtcfkkceidlpdkaaDoorTie.lean); close each card by the builder's one call (the guide's Derived/Test/ToyasCard.lean, 'card_holds'). Laid BY PROGRAM, IN A SANDBOX (cutbox-door.mjs). By AI agents, Wed Nov 11 2026. No macro, syntax, notation, axiom, sorry.
-/
import Derived.Test.YtcfkkceidlpdkaaDoorRows
import GoSem.ClaimSeven
namespace Go.Proofs.YtcfkkceidlpdkaaDoor
namespace Rows

/-- THE TIED CARD OF 'laws.FnExactFlowFrom'. -/
def fnExactFlowFromCard : Claim7 := { stood := { row := fnExactFlowFromRow, standIns := [], harness := (true, "b22237c96f3a8ba7e320e81f0c46bf543526635f637f1d3d16f9e04f171962cb"), looks := true }, kinds := [], alts := [], laidByText := true, laidKinds := [.data], laidTests := true, laidLooks := .later }
def FnExactFlowFromCardSaid : Prop := Claim7.holds Tryd.pinned (.plain (OpenSpec.ofChange fnExactFlowFromSpec)) fnExactFlowFromCard

/-- THE TIED CARD OF 'laws.FnExactBalanceAt'. -/
def fnExactBalanceAtCard : Claim7 := { stood := { row := fnExactBalanceAtRow, standIns := [], harness := (true, "b22237c96f3a8ba7e320e81f0c46bf543526635f637f1d3d16f9e04f171962cb"), looks := true }, kinds := [], alts := [], laidByText := true, laidKinds := [.data], laidTests := true, laidLooks := .later }
def FnExactBalanceAtCardSaid : Prop := Claim7.holds Tryd.pinned (.plain (OpenSpec.ofChange fnExactBalanceAtSpec)) fnExactBalanceAtCard

/-- THE TIED CARD OF 'laws.FnExactBalancesOf'. -/
def fnExactBalancesOfCard : Claim7 := { stood := { row := fnExactBalancesOfRow, standIns := [], harness := (true, "b22237c96f3a8ba7e320e81f0c46bf543526635f637f1d3d16f9e04f171962cb"), looks := true }, kinds := [], alts := [], laidByText := true, laidKinds := [.data], laidTests := true, laidLooks := .later }
def FnExactBalancesOfCardSaid : Prop := Claim7.holds Tryd.pinned (.plain (OpenSpec.ofChange fnExactBalancesOfSpec)) fnExactBalancesOfCard

/-- THE TIED CARD OF 'laws.FnExactWorstBalance'. -/
def fnExactWorstBalanceCard : Claim7 := { stood := { row := fnExactWorstBalanceRow, standIns := [], harness := (true, "b22237c96f3a8ba7e320e81f0c46bf543526635f637f1d3d16f9e04f171962cb"), looks := true }, kinds := [], alts := [], laidByText := true, laidKinds := [.data], laidTests := true, laidLooks := .later }
def FnExactWorstBalanceCardSaid : Prop := Claim7.holds Tryd.pinned (.plain (OpenSpec.ofChange fnExactWorstBalanceSpec)) fnExactWorstBalanceCard

/-- THE TIED CARD OF 'laws.FnExactSettledHead'. -/
def fnExactSettledHeadCard : Claim7 := { stood := { row := fnExactSettledHeadRow, standIns := [], harness := (true, "b22237c96f3a8ba7e320e81f0c46bf543526635f637f1d3d16f9e04f171962cb"), looks := true }, kinds := [], alts := [], laidByText := true, laidKinds := [.data], laidTests := true, laidLooks := .later }
def FnExactSettledHeadCardSaid : Prop := Claim7.holds Tryd.pinned (.plain (OpenSpec.ofChange fnExactSettledHeadSpec)) fnExactSettledHeadCard

/-- THE TIED CARD OF 'laws.FnExactChangesBetween'. -/
def fnExactChangesBetweenCard : Claim7 := { stood := { row := fnExactChangesBetweenRow, standIns := [], harness := (true, "b22237c96f3a8ba7e320e81f0c46bf543526635f637f1d3d16f9e04f171962cb"), looks := true }, kinds := [], alts := [], laidByText := true, laidKinds := [.data], laidTests := true, laidLooks := .later }
def FnExactChangesBetweenCardSaid : Prop := Claim7.holds Tryd.pinned (.plain (OpenSpec.ofChange fnExactChangesBetweenSpec)) fnExactChangesBetweenCard

/-- THE TIED CARD OF 'laws.FnExactGreatestChange'. -/
def fnExactGreatestChangeCard : Claim7 := { stood := { row := fnExactGreatestChangeRow, standIns := [], harness := (true, "b22237c96f3a8ba7e320e81f0c46bf543526635f637f1d3d16f9e04f171962cb"), looks := true }, kinds := [], alts := [], laidByText := true, laidKinds := [.data], laidTests := true, laidLooks := .later }
def FnExactGreatestChangeCardSaid : Prop := Claim7.holds Tryd.pinned (.plain (OpenSpec.ofChange fnExactGreatestChangeSpec)) fnExactGreatestChangeCard

/-- THE TIED CARD OF 'laws.FnExactWarmUp'. -/
def fnExactWarmUpCard : Claim7 := { stood := { row := fnExactWarmUpRow, standIns := [], harness := (true, "b22237c96f3a8ba7e320e81f0c46bf543526635f637f1d3d16f9e04f171962cb"), looks := true }, kinds := [], alts := [], laidByText := true, laidKinds := [.data], laidTests := true, laidLooks := .later }
def FnExactWarmUpCardSaid : Prop := Claim7.holds Tryd.pinned (.plain (OpenSpec.ofChange fnExactWarmUpSpec)) fnExactWarmUpCard

/-- THE TIED CARD OF 'laws.FnExactLeakOf'. -/
def fnExactLeakOfCard : Claim7 := { stood := { row := fnExactLeakOfRow, standIns := [], harness := (true, "b22237c96f3a8ba7e320e81f0c46bf543526635f637f1d3d16f9e04f171962cb"), looks := true }, kinds := [], alts := [], laidByText := true, laidKinds := [.data], laidTests := true, laidLooks := .later }
def FnExactLeakOfCardSaid : Prop := Claim7.holds Tryd.pinned (.plain (OpenSpec.ofChange fnExactLeakOfSpec)) fnExactLeakOfCard

/-- THE TIED CARD OF 'laws.FnExactFedCells'. -/
def fnExactFedCellsCard : Claim7 := { stood := { row := fnExactFedCellsRow, standIns := [], harness := (true, "b22237c96f3a8ba7e320e81f0c46bf543526635f637f1d3d16f9e04f171962cb"), looks := true }, kinds := [], alts := [], laidByText := true, laidKinds := [.data], laidTests := true, laidLooks := .later }
def FnExactFedCellsCardSaid : Prop := Claim7.holds Tryd.pinned (.plain (OpenSpec.ofChange fnExactFedCellsSpec)) fnExactFedCellsCard

/-- THE TIED CARD OF 'laws.FnExactStepAtOnce'. -/
def fnExactStepAtOnceCard : Claim7 := { stood := { row := fnExactStepAtOnceRow, standIns := [], harness := (true, "b22237c96f3a8ba7e320e81f0c46bf543526635f637f1d3d16f9e04f171962cb"), looks := true }, kinds := [], alts := [], laidByText := true, laidKinds := [.data], laidTests := true, laidLooks := .later }
def FnExactStepAtOnceCardSaid : Prop := Claim7.holds Tryd.pinned (.plain (OpenSpec.ofChange fnExactStepAtOnceSpec)) fnExactStepAtOnceCard

/-- THE TIED CARD OF 'laws.FnExactSweepInOrder'. -/
def fnExactSweepInOrderCard : Claim7 := { stood := { row := fnExactSweepInOrderRow, standIns := [], harness := (true, "b22237c96f3a8ba7e320e81f0c46bf543526635f637f1d3d16f9e04f171962cb"), looks := true }, kinds := [], alts := [], laidByText := true, laidKinds := [.data], laidTests := true, laidLooks := .later }
def FnExactSweepInOrderCardSaid : Prop := Claim7.holds Tryd.pinned (.plain (OpenSpec.ofChange fnExactSweepInOrderSpec)) fnExactSweepInOrderCard

/-- THE SECOND FORM's CARD OF 'laws.FnExactFlowFrom'. -/
def fnExactFlowFromUptoCard : Claim7 := { stood := { row := fnExactFlowFromUptoRow, standIns := [], harness := (true, "b22237c96f3a8ba7e320e81f0c46bf543526635f637f1d3d16f9e04f171962cb"), looks := true }, kinds := [], alts := [], laidByText := true, laidKinds := [.data], laidTests := true, laidLooks := .later }
def FnExactFlowFromUptoCardSaid : Prop := Claim7.holds Tryd.pinned (.plain (OpenSpec.upto fnExactFlowFromSpec)) fnExactFlowFromUptoCard

/-- THE SECOND FORM's CARD OF 'laws.FnExactBalanceAt'. -/
def fnExactBalanceAtUptoCard : Claim7 := { stood := { row := fnExactBalanceAtUptoRow, standIns := [], harness := (true, "b22237c96f3a8ba7e320e81f0c46bf543526635f637f1d3d16f9e04f171962cb"), looks := true }, kinds := [], alts := [], laidByText := true, laidKinds := [.data], laidTests := true, laidLooks := .later }
def FnExactBalanceAtUptoCardSaid : Prop := Claim7.holds Tryd.pinned (.plain (OpenSpec.upto fnExactBalanceAtSpec)) fnExactBalanceAtUptoCard

/-- THE SECOND FORM's CARD OF 'laws.FnExactBalancesOf'. -/
def fnExactBalancesOfUptoCard : Claim7 := { stood := { row := fnExactBalancesOfUptoRow, standIns := [], harness := (true, "b22237c96f3a8ba7e320e81f0c46bf543526635f637f1d3d16f9e04f171962cb"), looks := true }, kinds := [], alts := [], laidByText := true, laidKinds := [.data], laidTests := true, laidLooks := .later }
def FnExactBalancesOfUptoCardSaid : Prop := Claim7.holds Tryd.pinned (.plain (OpenSpec.upto fnExactBalancesOfSpec)) fnExactBalancesOfUptoCard

/-- THE SECOND FORM's CARD OF 'laws.FnExactWorstBalance'. -/
def fnExactWorstBalanceUptoCard : Claim7 := { stood := { row := fnExactWorstBalanceUptoRow, standIns := [], harness := (true, "b22237c96f3a8ba7e320e81f0c46bf543526635f637f1d3d16f9e04f171962cb"), looks := true }, kinds := [], alts := [], laidByText := true, laidKinds := [.data], laidTests := true, laidLooks := .later }
def FnExactWorstBalanceUptoCardSaid : Prop := Claim7.holds Tryd.pinned (.plain (OpenSpec.upto fnExactWorstBalanceSpec)) fnExactWorstBalanceUptoCard

/-- THE SECOND FORM's CARD OF 'laws.FnExactSettledHead'. -/
def fnExactSettledHeadUptoCard : Claim7 := { stood := { row := fnExactSettledHeadUptoRow, standIns := [], harness := (true, "b22237c96f3a8ba7e320e81f0c46bf543526635f637f1d3d16f9e04f171962cb"), looks := true }, kinds := [], alts := [], laidByText := true, laidKinds := [.data], laidTests := true, laidLooks := .later }
def FnExactSettledHeadUptoCardSaid : Prop := Claim7.holds Tryd.pinned (.plain (OpenSpec.upto fnExactSettledHeadSpec)) fnExactSettledHeadUptoCard

/-- THE SECOND FORM's CARD OF 'laws.FnExactChangesBetween'. -/
def fnExactChangesBetweenUptoCard : Claim7 := { stood := { row := fnExactChangesBetweenUptoRow, standIns := [], harness := (true, "b22237c96f3a8ba7e320e81f0c46bf543526635f637f1d3d16f9e04f171962cb"), looks := true }, kinds := [], alts := [], laidByText := true, laidKinds := [.data], laidTests := true, laidLooks := .later }
def FnExactChangesBetweenUptoCardSaid : Prop := Claim7.holds Tryd.pinned (.plain (OpenSpec.upto fnExactChangesBetweenSpec)) fnExactChangesBetweenUptoCard

/-- THE SECOND FORM's CARD OF 'laws.FnExactGreatestChange'. -/
def fnExactGreatestChangeUptoCard : Claim7 := { stood := { row := fnExactGreatestChangeUptoRow, standIns := [], harness := (true, "b22237c96f3a8ba7e320e81f0c46bf543526635f637f1d3d16f9e04f171962cb"), looks := true }, kinds := [], alts := [], laidByText := true, laidKinds := [.data], laidTests := true, laidLooks := .later }
def FnExactGreatestChangeUptoCardSaid : Prop := Claim7.holds Tryd.pinned (.plain (OpenSpec.upto fnExactGreatestChangeSpec)) fnExactGreatestChangeUptoCard

/-- THE SECOND FORM's CARD OF 'laws.FnExactWarmUp'. -/
def fnExactWarmUpUptoCard : Claim7 := { stood := { row := fnExactWarmUpUptoRow, standIns := [], harness := (true, "b22237c96f3a8ba7e320e81f0c46bf543526635f637f1d3d16f9e04f171962cb"), looks := true }, kinds := [], alts := [], laidByText := true, laidKinds := [.data], laidTests := true, laidLooks := .later }
def FnExactWarmUpUptoCardSaid : Prop := Claim7.holds Tryd.pinned (.plain (OpenSpec.upto fnExactWarmUpSpec)) fnExactWarmUpUptoCard

/-- THE SECOND FORM's CARD OF 'laws.FnExactLeakOf'. -/
def fnExactLeakOfUptoCard : Claim7 := { stood := { row := fnExactLeakOfUptoRow, standIns := [], harness := (true, "b22237c96f3a8ba7e320e81f0c46bf543526635f637f1d3d16f9e04f171962cb"), looks := true }, kinds := [], alts := [], laidByText := true, laidKinds := [.data], laidTests := true, laidLooks := .later }
def FnExactLeakOfUptoCardSaid : Prop := Claim7.holds Tryd.pinned (.plain (OpenSpec.upto fnExactLeakOfSpec)) fnExactLeakOfUptoCard

/-- THE SECOND FORM's CARD OF 'laws.FnExactFedCells'. -/
def fnExactFedCellsUptoCard : Claim7 := { stood := { row := fnExactFedCellsUptoRow, standIns := [], harness := (true, "b22237c96f3a8ba7e320e81f0c46bf543526635f637f1d3d16f9e04f171962cb"), looks := true }, kinds := [], alts := [], laidByText := true, laidKinds := [.data], laidTests := true, laidLooks := .later }
def FnExactFedCellsUptoCardSaid : Prop := Claim7.holds Tryd.pinned (.plain (OpenSpec.upto fnExactFedCellsSpec)) fnExactFedCellsUptoCard

/-- THE SECOND FORM's CARD OF 'laws.FnExactStepAtOnce'. -/
def fnExactStepAtOnceUptoCard : Claim7 := { stood := { row := fnExactStepAtOnceUptoRow, standIns := [], harness := (true, "b22237c96f3a8ba7e320e81f0c46bf543526635f637f1d3d16f9e04f171962cb"), looks := true }, kinds := [], alts := [], laidByText := true, laidKinds := [.data], laidTests := true, laidLooks := .later }
def FnExactStepAtOnceUptoCardSaid : Prop := Claim7.holds Tryd.pinned (.plain (OpenSpec.upto fnExactStepAtOnceSpec)) fnExactStepAtOnceUptoCard

/-- THE SECOND FORM's CARD OF 'laws.FnExactSweepInOrder'. -/
def fnExactSweepInOrderUptoCard : Claim7 := { stood := { row := fnExactSweepInOrderUptoRow, standIns := [], harness := (true, "b22237c96f3a8ba7e320e81f0c46bf543526635f637f1d3d16f9e04f171962cb"), looks := true }, kinds := [], alts := [], laidByText := true, laidKinds := [.data], laidTests := true, laidLooks := .later }
def FnExactSweepInOrderUptoCardSaid : Prop := Claim7.holds Tryd.pinned (.plain (OpenSpec.upto fnExactSweepInOrderSpec)) fnExactSweepInOrderUptoCard
end Rows
end Go.Proofs.YtcfkkceidlpdkaaDoor
