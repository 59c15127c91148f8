/-
  DERIVED. GIVEN WITH THE SEED: THE CARDS: each row of YtaghnminpfgdcaaGreatDoorRows.lean that lists a variable, with what it lists TIED to the program's text (the seventh form; the later family's looks); each row that meets fmt, with fmt's text TOLD by the authors' own Lean function (tested against real Go, not proved from fmt's source: count such statements apart). THE CARD IS WHAT COUNTS. Prove the row's statement (the work); the ties are given (YtaghnminpfgdcaaGreatDoorTie.lean); close each card by the builder's one call (the guide's Derived/Test/ToyasCard.lean, 'card_holds'). Laid BY PROGRAM, IN A SANDBOX (cutbox-door.mjs). By AI agents, Wed Nov 11 2026. No macro, syntax, notation, axiom, sorry.
-/
import Derived.Test.YtaghnminpfgdcaaGreatDoorRows
import GoSem.ClaimSeven
namespace Go.Proofs.YtaghnminpfgdcaaGreatDoor
namespace Rows

/-- THE TIED CARD OF 'laws.FnExactGroundWith'. -/
def fnExactGroundWithCard : Claim7 := { stood := { row := fnExactGroundWithRow, standIns := [], harness := (true, "42827be4f786ec0a82842a15ad423b381e43f39fe5fb021dd5be4f026a6491b3"), looks := true }, kinds := [], alts := [], laidByText := true, laidKinds := [.data, .handle], laidTests := true, laidLooks := .later }
def FnExactGroundWithCardSaid : Prop := Claim7.holds Tryz.pinned (.plain (OpenSpec.ofChange fnExactGroundWithSpec)) fnExactGroundWithCard

/-- THE TIED CARD OF 'laws.FnExactLevelsWith'. -/
def fnExactLevelsWithCard : Claim7 := { stood := { row := fnExactLevelsWithRow, standIns := [], harness := (true, "42827be4f786ec0a82842a15ad423b381e43f39fe5fb021dd5be4f026a6491b3"), looks := true }, kinds := [], alts := [], laidByText := true, laidKinds := [.data, .handle], laidTests := true, laidLooks := .later }
def FnExactLevelsWithCardSaid : Prop := Claim7.holds Tryz.pinned (.plain (OpenSpec.ofChange fnExactLevelsWithSpec)) fnExactLevelsWithCard

/-- THE TIED CARD OF 'laws.FnExactFirstBelow'. -/
def fnExactFirstBelowCard : Claim7 := { stood := { row := fnExactFirstBelowRow, standIns := [], harness := (true, "42827be4f786ec0a82842a15ad423b381e43f39fe5fb021dd5be4f026a6491b3"), looks := true }, kinds := [], alts := [], laidByText := true, laidKinds := [.data, .handle], laidTests := true, laidLooks := .later }
def FnExactFirstBelowCardSaid : Prop := Claim7.holds Tryz.pinned (.plain (OpenSpec.ofChange fnExactFirstBelowSpec)) fnExactFirstBelowCard

/-- THE TIED CARD OF 'laws.FnExactAreKept'. -/
def fnExactAreKeptCard : Claim7 := { stood := { row := fnExactAreKeptRow, standIns := [], harness := (true, "42827be4f786ec0a82842a15ad423b381e43f39fe5fb021dd5be4f026a6491b3"), looks := true }, kinds := [], alts := [], laidByText := true, laidKinds := [.data], laidTests := true, laidLooks := .later }
def FnExactAreKeptCardSaid : Prop := Claim7.holds Tryz.pinned (.plain (OpenSpec.ofChange fnExactAreKeptSpec)) fnExactAreKeptCard

/-- THE TIED CARD OF 'laws.FnExactGrantInOrder'. -/
def fnExactGrantInOrderCard : Claim7 := { stood := { row := fnExactGrantInOrderRow, standIns := [], harness := (true, "42827be4f786ec0a82842a15ad423b381e43f39fe5fb021dd5be4f026a6491b3"), looks := true }, kinds := [], alts := [], laidByText := true, laidKinds := [.data], laidTests := true, laidLooks := .later }
def FnExactGrantInOrderCardSaid : Prop := Claim7.holds Tryz.pinned (.plain (OpenSpec.ofChange fnExactGrantInOrderSpec)) fnExactGrantInOrderCard

/-- THE TIED CARD OF 'laws.FnExactCheckGrant'. -/
def fnExactCheckGrantCard : Claim7 := { stood := { row := fnExactCheckGrantRow, standIns := [], harness := (true, "42827be4f786ec0a82842a15ad423b381e43f39fe5fb021dd5be4f026a6491b3"), looks := true }, kinds := [], alts := [], laidByText := true, laidKinds := [.data], laidTests := true, laidLooks := .later }
def FnExactCheckGrantCardSaid : Prop := Claim7.holds Tryz.pinned (.plain (OpenSpec.ofChange fnExactCheckGrantSpec)) fnExactCheckGrantCard

/-- THE TIED CARD OF 'laws.FnExactFewestRefused'. -/
def fnExactFewestRefusedCard : Claim7 := { stood := { row := fnExactFewestRefusedRow, standIns := [], harness := (true, "42827be4f786ec0a82842a15ad423b381e43f39fe5fb021dd5be4f026a6491b3"), looks := true }, kinds := [], alts := [], laidByText := true, laidKinds := [.data], laidTests := true, laidLooks := .later }
def FnExactFewestRefusedCardSaid : Prop := Claim7.holds Tryz.pinned (.plain (OpenSpec.ofChange fnExactFewestRefusedSpec)) fnExactFewestRefusedCard

/-- THE TIED CARD OF 'laws.FnExactMostWater'. -/
def fnExactMostWaterCard : Claim7 := { stood := { row := fnExactMostWaterRow, standIns := [], harness := (true, "42827be4f786ec0a82842a15ad423b381e43f39fe5fb021dd5be4f026a6491b3"), looks := true }, kinds := [], alts := [], laidByText := true, laidKinds := [.data], laidTests := true, laidLooks := .later }
def FnExactMostWaterCardSaid : Prop := Claim7.holds Tryz.pinned (.plain (OpenSpec.ofChange fnExactMostWaterSpec)) fnExactMostWaterCard

/-- THE TIED CARD OF 'laws.FnExactGreatestPercent'. -/
def fnExactGreatestPercentCard : Claim7 := { stood := { row := fnExactGreatestPercentRow, standIns := [], harness := (true, "42827be4f786ec0a82842a15ad423b381e43f39fe5fb021dd5be4f026a6491b3"), looks := true }, kinds := [], alts := [], laidByText := true, laidKinds := [.data], laidTests := true, laidLooks := .later }
def FnExactGreatestPercentCardSaid : Prop := Claim7.holds Tryz.pinned (.plain (OpenSpec.ofChange fnExactGreatestPercentSpec)) fnExactGreatestPercentCard

/-- THE SECOND FORM's CARD OF 'laws.FnExactGroundWith'. -/
def fnExactGroundWithUptoCard : Claim7 := { stood := { row := fnExactGroundWithUptoRow, standIns := [], harness := (true, "42827be4f786ec0a82842a15ad423b381e43f39fe5fb021dd5be4f026a6491b3"), looks := true }, kinds := [], alts := [], laidByText := true, laidKinds := [.data, .handle], laidTests := true, laidLooks := .later }
def FnExactGroundWithUptoCardSaid : Prop := Claim7.holds Tryz.pinned (.plain (OpenSpec.upto fnExactGroundWithSpec)) fnExactGroundWithUptoCard

/-- THE SECOND FORM's CARD OF 'laws.FnExactLevelsWith'. -/
def fnExactLevelsWithUptoCard : Claim7 := { stood := { row := fnExactLevelsWithUptoRow, standIns := [], harness := (true, "42827be4f786ec0a82842a15ad423b381e43f39fe5fb021dd5be4f026a6491b3"), looks := true }, kinds := [], alts := [], laidByText := true, laidKinds := [.data, .handle], laidTests := true, laidLooks := .later }
def FnExactLevelsWithUptoCardSaid : Prop := Claim7.holds Tryz.pinned (.plain (OpenSpec.upto fnExactLevelsWithSpec)) fnExactLevelsWithUptoCard

/-- THE SECOND FORM's CARD OF 'laws.FnExactFirstBelow'. -/
def fnExactFirstBelowUptoCard : Claim7 := { stood := { row := fnExactFirstBelowUptoRow, standIns := [], harness := (true, "42827be4f786ec0a82842a15ad423b381e43f39fe5fb021dd5be4f026a6491b3"), looks := true }, kinds := [], alts := [], laidByText := true, laidKinds := [.data, .handle], laidTests := true, laidLooks := .later }
def FnExactFirstBelowUptoCardSaid : Prop := Claim7.holds Tryz.pinned (.plain (OpenSpec.upto fnExactFirstBelowSpec)) fnExactFirstBelowUptoCard

/-- THE SECOND FORM's CARD OF 'laws.FnExactAreKept'. -/
def fnExactAreKeptUptoCard : Claim7 := { stood := { row := fnExactAreKeptUptoRow, standIns := [], harness := (true, "42827be4f786ec0a82842a15ad423b381e43f39fe5fb021dd5be4f026a6491b3"), looks := true }, kinds := [], alts := [], laidByText := true, laidKinds := [.data], laidTests := true, laidLooks := .later }
def FnExactAreKeptUptoCardSaid : Prop := Claim7.holds Tryz.pinned (.plain (OpenSpec.upto fnExactAreKeptSpec)) fnExactAreKeptUptoCard

/-- THE SECOND FORM's CARD OF 'laws.FnExactGrantInOrder'. -/
def fnExactGrantInOrderUptoCard : Claim7 := { stood := { row := fnExactGrantInOrderUptoRow, standIns := [], harness := (true, "42827be4f786ec0a82842a15ad423b381e43f39fe5fb021dd5be4f026a6491b3"), looks := true }, kinds := [], alts := [], laidByText := true, laidKinds := [.data], laidTests := true, laidLooks := .later }
def FnExactGrantInOrderUptoCardSaid : Prop := Claim7.holds Tryz.pinned (.plain (OpenSpec.upto fnExactGrantInOrderSpec)) fnExactGrantInOrderUptoCard

/-- THE SECOND FORM's CARD OF 'laws.FnExactCheckGrant'. -/
def fnExactCheckGrantUptoCard : Claim7 := { stood := { row := fnExactCheckGrantUptoRow, standIns := [], harness := (true, "42827be4f786ec0a82842a15ad423b381e43f39fe5fb021dd5be4f026a6491b3"), looks := true }, kinds := [], alts := [], laidByText := true, laidKinds := [.data], laidTests := true, laidLooks := .later }
def FnExactCheckGrantUptoCardSaid : Prop := Claim7.holds Tryz.pinned (.plain (OpenSpec.upto fnExactCheckGrantSpec)) fnExactCheckGrantUptoCard

/-- THE SECOND FORM's CARD OF 'laws.FnExactFewestRefused'. -/
def fnExactFewestRefusedUptoCard : Claim7 := { stood := { row := fnExactFewestRefusedUptoRow, standIns := [], harness := (true, "42827be4f786ec0a82842a15ad423b381e43f39fe5fb021dd5be4f026a6491b3"), looks := true }, kinds := [], alts := [], laidByText := true, laidKinds := [.data], laidTests := true, laidLooks := .later }
def FnExactFewestRefusedUptoCardSaid : Prop := Claim7.holds Tryz.pinned (.plain (OpenSpec.upto fnExactFewestRefusedSpec)) fnExactFewestRefusedUptoCard

/-- THE SECOND FORM's CARD OF 'laws.FnExactMostWater'. -/
def fnExactMostWaterUptoCard : Claim7 := { stood := { row := fnExactMostWaterUptoRow, standIns := [], harness := (true, "42827be4f786ec0a82842a15ad423b381e43f39fe5fb021dd5be4f026a6491b3"), looks := true }, kinds := [], alts := [], laidByText := true, laidKinds := [.data], laidTests := true, laidLooks := .later }
def FnExactMostWaterUptoCardSaid : Prop := Claim7.holds Tryz.pinned (.plain (OpenSpec.upto fnExactMostWaterSpec)) fnExactMostWaterUptoCard

/-- THE SECOND FORM's CARD OF 'laws.FnExactGreatestPercent'. -/
def fnExactGreatestPercentUptoCard : Claim7 := { stood := { row := fnExactGreatestPercentUptoRow, standIns := [], harness := (true, "42827be4f786ec0a82842a15ad423b381e43f39fe5fb021dd5be4f026a6491b3"), looks := true }, kinds := [], alts := [], laidByText := true, laidKinds := [.data], laidTests := true, laidLooks := .later }
def FnExactGreatestPercentUptoCardSaid : Prop := Claim7.holds Tryz.pinned (.plain (OpenSpec.upto fnExactGreatestPercentSpec)) fnExactGreatestPercentUptoCard
end Rows
end Go.Proofs.YtaghnminpfgdcaaGreatDoor
