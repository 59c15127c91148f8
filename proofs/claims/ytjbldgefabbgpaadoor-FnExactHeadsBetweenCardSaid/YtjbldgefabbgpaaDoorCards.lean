/-
  DERIVED. GIVEN WITH THE SEED: THE CARDS: each row of YtjbldgefabbgpaaDoorRows.lean that lists a variable, with what it lists TIED to the program's text (the seventh form; the later family's looks); each row that meets fmt, with fmt's text TOLD by the authors' own Lean function (tested against real Go, not proved from fmt's source: count such statements apart). THE CARD IS WHAT COUNTS. Prove the row's statement (the work); the ties are given (YtjbldgefabbgpaaDoorTie.lean); close each card by the builder's one call (the guide's Derived/Test/ToyasCard.lean, 'card_holds'). Laid BY PROGRAM, IN A SANDBOX (cutbox-door.mjs). By AI agents, Wed Nov 11 2026. No macro, syntax, notation, axiom, sorry.
-/
import Derived.Test.YtjbldgefabbgpaaDoorRows
import GoSem.ClaimSeven
namespace Go.Proofs.YtjbldgefabbgpaaDoor
namespace Rows

/-- THE TIED CARD OF 'laws.FnExactCellAt'. -/
def fnExactCellAtCard : Claim7 := { stood := { row := fnExactCellAtRow, standIns := [], harness := (true, "636cc582d6fcbd9228606e529267664a3547650faf0f3b7c2f5883e8b5213bf4"), looks := false }, kinds := [], alts := [], laidByText := true, laidKinds := [.data], laidTests := true, laidLooks := .later }
def FnExactCellAtCardSaid : Prop := Claim7.holds Tryd.pinned (.plain (OpenSpec.ofChange fnExactCellAtSpec)) fnExactCellAtCard

/-- THE TIED CARD OF 'laws.FnExactBesideCell'. -/
def fnExactBesideCellCard : Claim7 := { stood := { row := fnExactBesideCellRow, standIns := [], harness := (true, "636cc582d6fcbd9228606e529267664a3547650faf0f3b7c2f5883e8b5213bf4"), looks := false }, kinds := [], alts := [], laidByText := true, laidKinds := [.data], laidTests := true, laidLooks := .later }
def FnExactBesideCellCardSaid : Prop := Claim7.holds Tryd.pinned (.plain (OpenSpec.ofChange fnExactBesideCellSpec)) fnExactBesideCellCard

/-- THE TIED CARD OF 'laws.FnExactCellsOf'. -/
def fnExactCellsOfCard : Claim7 := { stood := { row := fnExactCellsOfRow, standIns := [], harness := (true, "636cc582d6fcbd9228606e529267664a3547650faf0f3b7c2f5883e8b5213bf4"), looks := false }, kinds := [], alts := [], laidByText := true, laidKinds := [.data], laidTests := true, laidLooks := .later }
def FnExactCellsOfCardSaid : Prop := Claim7.holds Tryd.pinned (.plain (OpenSpec.ofChange fnExactCellsOfSpec)) fnExactCellsOfCard

/-- THE TIED CARD OF 'laws.FnExactHeadsBetween'. -/
def fnExactHeadsBetweenCard : Claim7 := { stood := { row := fnExactHeadsBetweenRow, standIns := [], harness := (true, "636cc582d6fcbd9228606e529267664a3547650faf0f3b7c2f5883e8b5213bf4"), looks := false }, kinds := [], alts := [], laidByText := true, laidKinds := [.data], laidTests := true, laidLooks := .later }
def FnExactHeadsBetweenCardSaid : Prop := Claim7.holds Tryd.pinned (.plain (OpenSpec.ofChange fnExactHeadsBetweenSpec)) fnExactHeadsBetweenCard

/-- THE TIED CARD OF 'laws.FnExactWithHead'. -/
def fnExactWithHeadCard : Claim7 := { stood := { row := fnExactWithHeadRow, standIns := [], harness := (true, "636cc582d6fcbd9228606e529267664a3547650faf0f3b7c2f5883e8b5213bf4"), looks := false }, kinds := [], alts := [], laidByText := true, laidKinds := [.data], laidTests := true, laidLooks := .later }
def FnExactWithHeadCardSaid : Prop := Claim7.holds Tryd.pinned (.plain (OpenSpec.ofChange fnExactWithHeadSpec)) fnExactWithHeadCard

/-- THE TIED CARD OF 'laws.FnExactWithGain'. -/
def fnExactWithGainCard : Claim7 := { stood := { row := fnExactWithGainRow, standIns := [], harness := (true, "636cc582d6fcbd9228606e529267664a3547650faf0f3b7c2f5883e8b5213bf4"), looks := false }, kinds := [], alts := [], laidByText := true, laidKinds := [.data], laidTests := true, laidLooks := .later }
def FnExactWithGainCardSaid : Prop := Claim7.holds Tryd.pinned (.plain (OpenSpec.ofChange fnExactWithGainSpec)) fnExactWithGainCard

/-- THE TIED CARD OF 'laws.FnExactWithConduct'. -/
def fnExactWithConductCard : Claim7 := { stood := { row := fnExactWithConductRow, standIns := [], harness := (true, "636cc582d6fcbd9228606e529267664a3547650faf0f3b7c2f5883e8b5213bf4"), looks := false }, kinds := [], alts := [], laidByText := true, laidKinds := [.data], laidTests := true, laidLooks := .later }
def FnExactWithConductCardSaid : Prop := Claim7.holds Tryd.pinned (.plain (OpenSpec.ofChange fnExactWithConductSpec)) fnExactWithConductCard

/-- THE TIED CARD OF 'laws.FnExactWithFixed'. -/
def fnExactWithFixedCard : Claim7 := { stood := { row := fnExactWithFixedRow, standIns := [], harness := (true, "636cc582d6fcbd9228606e529267664a3547650faf0f3b7c2f5883e8b5213bf4"), looks := false }, kinds := [], alts := [], laidByText := true, laidKinds := [.data], laidTests := true, laidLooks := .later }
def FnExactWithFixedCardSaid : Prop := Claim7.holds Tryd.pinned (.plain (OpenSpec.ofChange fnExactWithFixedSpec)) fnExactWithFixedCard

/-- THE TIED CARD OF 'laws.FnExactMirrorGround'. -/
def fnExactMirrorGroundCard : Claim7 := { stood := { row := fnExactMirrorGroundRow, standIns := [], harness := (true, "636cc582d6fcbd9228606e529267664a3547650faf0f3b7c2f5883e8b5213bf4"), looks := false }, kinds := [], alts := [], laidByText := true, laidKinds := [.data], laidTests := true, laidLooks := .later }
def FnExactMirrorGroundCardSaid : Prop := Claim7.holds Tryd.pinned (.plain (OpenSpec.ofChange fnExactMirrorGroundSpec)) fnExactMirrorGroundCard

/-- THE TIED CARD OF 'laws.FnExactSumOver'. -/
def fnExactSumOverCard : Claim7 := { stood := { row := fnExactSumOverRow, standIns := [], harness := (true, "636cc582d6fcbd9228606e529267664a3547650faf0f3b7c2f5883e8b5213bf4"), looks := false }, kinds := [], alts := [], laidByText := true, laidKinds := [.data], laidTests := true, laidLooks := .later }
def FnExactSumOverCardSaid : Prop := Claim7.holds Tryd.pinned (.plain (OpenSpec.ofChange fnExactSumOverSpec)) fnExactSumOverCard

/-- THE TIED CARD OF 'laws.FnExactFlowFrom'. -/
def fnExactFlowFromCard : Claim7 := { stood := { row := fnExactFlowFromRow, standIns := [], harness := (true, "636cc582d6fcbd9228606e529267664a3547650faf0f3b7c2f5883e8b5213bf4"), looks := false }, kinds := [], alts := [], laidByText := true, laidKinds := [.data], laidTests := true, laidLooks := .later }
def FnExactFlowFromCardSaid : Prop := Claim7.holds Tryd.pinned (.plain (OpenSpec.ofChange fnExactFlowFromSpec)) fnExactFlowFromCard

/-- THE TIED CARD OF 'laws.FnExactBalanceAt'. -/
def fnExactBalanceAtCard : Claim7 := { stood := { row := fnExactBalanceAtRow, standIns := [], harness := (true, "636cc582d6fcbd9228606e529267664a3547650faf0f3b7c2f5883e8b5213bf4"), looks := false }, kinds := [], alts := [], laidByText := true, laidKinds := [.data], laidTests := true, laidLooks := .later }
def FnExactBalanceAtCardSaid : Prop := Claim7.holds Tryd.pinned (.plain (OpenSpec.ofChange fnExactBalanceAtSpec)) fnExactBalanceAtCard

/-- THE TIED CARD OF 'laws.FnExactBalancesOf'. -/
def fnExactBalancesOfCard : Claim7 := { stood := { row := fnExactBalancesOfRow, standIns := [], harness := (true, "636cc582d6fcbd9228606e529267664a3547650faf0f3b7c2f5883e8b5213bf4"), looks := false }, kinds := [], alts := [], laidByText := true, laidKinds := [.data], laidTests := true, laidLooks := .later }
def FnExactBalancesOfCardSaid : Prop := Claim7.holds Tryd.pinned (.plain (OpenSpec.ofChange fnExactBalancesOfSpec)) fnExactBalancesOfCard

/-- THE SECOND FORM's CARD OF 'laws.FnExactCellAt'. -/
def fnExactCellAtUptoCard : Claim7 := { stood := { row := fnExactCellAtUptoRow, standIns := [], harness := (true, "636cc582d6fcbd9228606e529267664a3547650faf0f3b7c2f5883e8b5213bf4"), looks := false }, kinds := [], alts := [], laidByText := true, laidKinds := [.data], laidTests := true, laidLooks := .later }
def FnExactCellAtUptoCardSaid : Prop := Claim7.holds Tryd.pinned (.plain (OpenSpec.upto fnExactCellAtSpec)) fnExactCellAtUptoCard

/-- THE SECOND FORM's CARD OF 'laws.FnExactBesideCell'. -/
def fnExactBesideCellUptoCard : Claim7 := { stood := { row := fnExactBesideCellUptoRow, standIns := [], harness := (true, "636cc582d6fcbd9228606e529267664a3547650faf0f3b7c2f5883e8b5213bf4"), looks := false }, kinds := [], alts := [], laidByText := true, laidKinds := [.data], laidTests := true, laidLooks := .later }
def FnExactBesideCellUptoCardSaid : Prop := Claim7.holds Tryd.pinned (.plain (OpenSpec.upto fnExactBesideCellSpec)) fnExactBesideCellUptoCard

/-- THE SECOND FORM's CARD OF 'laws.FnExactCellsOf'. -/
def fnExactCellsOfUptoCard : Claim7 := { stood := { row := fnExactCellsOfUptoRow, standIns := [], harness := (true, "636cc582d6fcbd9228606e529267664a3547650faf0f3b7c2f5883e8b5213bf4"), looks := false }, kinds := [], alts := [], laidByText := true, laidKinds := [.data], laidTests := true, laidLooks := .later }
def FnExactCellsOfUptoCardSaid : Prop := Claim7.holds Tryd.pinned (.plain (OpenSpec.upto fnExactCellsOfSpec)) fnExactCellsOfUptoCard

/-- THE SECOND FORM's CARD OF 'laws.FnExactHeadsBetween'. -/
def fnExactHeadsBetweenUptoCard : Claim7 := { stood := { row := fnExactHeadsBetweenUptoRow, standIns := [], harness := (true, "636cc582d6fcbd9228606e529267664a3547650faf0f3b7c2f5883e8b5213bf4"), looks := false }, kinds := [], alts := [], laidByText := true, laidKinds := [.data], laidTests := true, laidLooks := .later }
def FnExactHeadsBetweenUptoCardSaid : Prop := Claim7.holds Tryd.pinned (.plain (OpenSpec.upto fnExactHeadsBetweenSpec)) fnExactHeadsBetweenUptoCard

/-- THE SECOND FORM's CARD OF 'laws.FnExactWithHead'. -/
def fnExactWithHeadUptoCard : Claim7 := { stood := { row := fnExactWithHeadUptoRow, standIns := [], harness := (true, "636cc582d6fcbd9228606e529267664a3547650faf0f3b7c2f5883e8b5213bf4"), looks := false }, kinds := [], alts := [], laidByText := true, laidKinds := [.data], laidTests := true, laidLooks := .later }
def FnExactWithHeadUptoCardSaid : Prop := Claim7.holds Tryd.pinned (.plain (OpenSpec.upto fnExactWithHeadSpec)) fnExactWithHeadUptoCard

/-- THE SECOND FORM's CARD OF 'laws.FnExactWithGain'. -/
def fnExactWithGainUptoCard : Claim7 := { stood := { row := fnExactWithGainUptoRow, standIns := [], harness := (true, "636cc582d6fcbd9228606e529267664a3547650faf0f3b7c2f5883e8b5213bf4"), looks := false }, kinds := [], alts := [], laidByText := true, laidKinds := [.data], laidTests := true, laidLooks := .later }
def FnExactWithGainUptoCardSaid : Prop := Claim7.holds Tryd.pinned (.plain (OpenSpec.upto fnExactWithGainSpec)) fnExactWithGainUptoCard

/-- THE SECOND FORM's CARD OF 'laws.FnExactWithConduct'. -/
def fnExactWithConductUptoCard : Claim7 := { stood := { row := fnExactWithConductUptoRow, standIns := [], harness := (true, "636cc582d6fcbd9228606e529267664a3547650faf0f3b7c2f5883e8b5213bf4"), looks := false }, kinds := [], alts := [], laidByText := true, laidKinds := [.data], laidTests := true, laidLooks := .later }
def FnExactWithConductUptoCardSaid : Prop := Claim7.holds Tryd.pinned (.plain (OpenSpec.upto fnExactWithConductSpec)) fnExactWithConductUptoCard

/-- THE SECOND FORM's CARD OF 'laws.FnExactWithFixed'. -/
def fnExactWithFixedUptoCard : Claim7 := { stood := { row := fnExactWithFixedUptoRow, standIns := [], harness := (true, "636cc582d6fcbd9228606e529267664a3547650faf0f3b7c2f5883e8b5213bf4"), looks := false }, kinds := [], alts := [], laidByText := true, laidKinds := [.data], laidTests := true, laidLooks := .later }
def FnExactWithFixedUptoCardSaid : Prop := Claim7.holds Tryd.pinned (.plain (OpenSpec.upto fnExactWithFixedSpec)) fnExactWithFixedUptoCard

/-- THE SECOND FORM's CARD OF 'laws.FnExactMirrorGround'. -/
def fnExactMirrorGroundUptoCard : Claim7 := { stood := { row := fnExactMirrorGroundUptoRow, standIns := [], harness := (true, "636cc582d6fcbd9228606e529267664a3547650faf0f3b7c2f5883e8b5213bf4"), looks := false }, kinds := [], alts := [], laidByText := true, laidKinds := [.data], laidTests := true, laidLooks := .later }
def FnExactMirrorGroundUptoCardSaid : Prop := Claim7.holds Tryd.pinned (.plain (OpenSpec.upto fnExactMirrorGroundSpec)) fnExactMirrorGroundUptoCard

/-- THE SECOND FORM's CARD OF 'laws.FnExactSumOver'. -/
def fnExactSumOverUptoCard : Claim7 := { stood := { row := fnExactSumOverUptoRow, standIns := [], harness := (true, "636cc582d6fcbd9228606e529267664a3547650faf0f3b7c2f5883e8b5213bf4"), looks := false }, kinds := [], alts := [], laidByText := true, laidKinds := [.data], laidTests := true, laidLooks := .later }
def FnExactSumOverUptoCardSaid : Prop := Claim7.holds Tryd.pinned (.plain (OpenSpec.upto fnExactSumOverSpec)) fnExactSumOverUptoCard

/-- THE SECOND FORM's CARD OF 'laws.FnExactFlowFrom'. -/
def fnExactFlowFromUptoCard : Claim7 := { stood := { row := fnExactFlowFromUptoRow, standIns := [], harness := (true, "636cc582d6fcbd9228606e529267664a3547650faf0f3b7c2f5883e8b5213bf4"), looks := false }, kinds := [], alts := [], laidByText := true, laidKinds := [.data], laidTests := true, laidLooks := .later }
def FnExactFlowFromUptoCardSaid : Prop := Claim7.holds Tryd.pinned (.plain (OpenSpec.upto fnExactFlowFromSpec)) fnExactFlowFromUptoCard

/-- THE SECOND FORM's CARD OF 'laws.FnExactBalanceAt'. -/
def fnExactBalanceAtUptoCard : Claim7 := { stood := { row := fnExactBalanceAtUptoRow, standIns := [], harness := (true, "636cc582d6fcbd9228606e529267664a3547650faf0f3b7c2f5883e8b5213bf4"), looks := false }, kinds := [], alts := [], laidByText := true, laidKinds := [.data], laidTests := true, laidLooks := .later }
def FnExactBalanceAtUptoCardSaid : Prop := Claim7.holds Tryd.pinned (.plain (OpenSpec.upto fnExactBalanceAtSpec)) fnExactBalanceAtUptoCard

/-- THE SECOND FORM's CARD OF 'laws.FnExactBalancesOf'. -/
def fnExactBalancesOfUptoCard : Claim7 := { stood := { row := fnExactBalancesOfUptoRow, standIns := [], harness := (true, "636cc582d6fcbd9228606e529267664a3547650faf0f3b7c2f5883e8b5213bf4"), looks := false }, kinds := [], alts := [], laidByText := true, laidKinds := [.data], laidTests := true, laidLooks := .later }
def FnExactBalancesOfUptoCardSaid : Prop := Claim7.holds Tryd.pinned (.plain (OpenSpec.upto fnExactBalancesOfSpec)) fnExactBalancesOfUptoCard
end Rows
end Go.Proofs.YtjbldgefabbgpaaDoor
