/-
  DERIVED. GIVEN WITH THE SEED: THE CARDS: each row of YtjoehdlhhahamabDoorRows.lean that lists a variable, with what it lists TIED to the program's text (the seventh form; the later family's looks); each row that meets fmt, with fmt's text TOLD by the authors' own Lean function (tested against real Go, not proved from fmt's source: count such statements apart). THE CARD IS WHAT COUNTS. Prove the row's statement (the work); the ties are given (YtjoehdlhhahamabDoorTie.lean); close each card by the builder's one call (the guide's Derived/Test/ToyasCard.lean, 'card_holds'). Laid BY PROGRAM, IN A SANDBOX (cutbox-door.mjs). By AI agents, Wed Nov 11 2026. No macro, syntax, notation, axiom, sorry.
-/
import Derived.Test.YtjoehdlhhahamabDoorRows
import GoSem.ClaimSeven
namespace Go.Proofs.YtjoehdlhhahamabDoor
namespace Rows

/-- THE TIED CARD OF 'laws.FnExactFedCells'. -/
def fnExactFedCellsCard : Claim7 := { stood := { row := fnExactFedCellsRow, standIns := [], harness := (true, "ce041e5300c844dc93370711987d966b05a8eeff5da6fb9fabb473f4ce07b24f"), looks := true }, kinds := [], alts := [], laidByText := true, laidKinds := [.data], laidTests := true, laidLooks := .later }
def FnExactFedCellsCardSaid : Prop := Claim7.holds Tryd.pinned (.plain (OpenSpec.ofChange fnExactFedCellsSpec)) fnExactFedCellsCard

/-- THE TIED CARD OF 'laws.FnExactStepAtOnce'. -/
def fnExactStepAtOnceCard : Claim7 := { stood := { row := fnExactStepAtOnceRow, standIns := [], harness := (true, "ce041e5300c844dc93370711987d966b05a8eeff5da6fb9fabb473f4ce07b24f"), looks := true }, kinds := [], alts := [], laidByText := true, laidKinds := [.data], laidTests := true, laidLooks := .later }
def FnExactStepAtOnceCardSaid : Prop := Claim7.holds Tryd.pinned (.plain (OpenSpec.ofChange fnExactStepAtOnceSpec)) fnExactStepAtOnceCard

/-- THE TIED CARD OF 'laws.FnExactSweepInOrder'. -/
def fnExactSweepInOrderCard : Claim7 := { stood := { row := fnExactSweepInOrderRow, standIns := [], harness := (true, "ce041e5300c844dc93370711987d966b05a8eeff5da6fb9fabb473f4ce07b24f"), looks := true }, kinds := [], alts := [], laidByText := true, laidKinds := [.data], laidTests := true, laidLooks := .later }
def FnExactSweepInOrderCardSaid : Prop := Claim7.holds Tryd.pinned (.plain (OpenSpec.ofChange fnExactSweepInOrderSpec)) fnExactSweepInOrderCard

/-- THE TIED CARD OF 'laws.FnExactSweepColour'. -/
def fnExactSweepColourCard : Claim7 := { stood := { row := fnExactSweepColourRow, standIns := [], harness := (true, "ce041e5300c844dc93370711987d966b05a8eeff5da6fb9fabb473f4ce07b24f"), looks := true }, kinds := [], alts := [], laidByText := true, laidKinds := [.data], laidTests := true, laidLooks := .later }
def FnExactSweepColourCardSaid : Prop := Claim7.holds Tryd.pinned (.plain (OpenSpec.ofChange fnExactSweepColourSpec)) fnExactSweepColourCard

/-- THE TIED CARD OF 'laws.FnExactSweepBoth'. -/
def fnExactSweepBothCard : Claim7 := { stood := { row := fnExactSweepBothRow, standIns := [], harness := (true, "ce041e5300c844dc93370711987d966b05a8eeff5da6fb9fabb473f4ce07b24f"), looks := true }, kinds := [], alts := [], laidByText := true, laidKinds := [.data], laidTests := true, laidLooks := .later }
def FnExactSweepBothCardSaid : Prop := Claim7.holds Tryd.pinned (.plain (OpenSpec.ofChange fnExactSweepBothSpec)) fnExactSweepBothCard

/-- THE TIED CARD OF 'laws.FnExactRelaxedSweep'. -/
def fnExactRelaxedSweepCard : Claim7 := { stood := { row := fnExactRelaxedSweepRow, standIns := [], harness := (true, "ce041e5300c844dc93370711987d966b05a8eeff5da6fb9fabb473f4ce07b24f"), looks := true }, kinds := [], alts := [], laidByText := true, laidKinds := [.data], laidTests := true, laidLooks := .later }
def FnExactRelaxedSweepCardSaid : Prop := Claim7.holds Tryd.pinned (.plain (OpenSpec.ofChange fnExactRelaxedSweepSpec)) fnExactRelaxedSweepCard

/-- THE TIED CARD OF 'laws.FnExactSettleGround'. -/
def fnExactSettleGroundCard : Claim7 := { stood := { row := fnExactSettleGroundRow, standIns := [], harness := (true, "ce041e5300c844dc93370711987d966b05a8eeff5da6fb9fabb473f4ce07b24f"), looks := true }, kinds := [], alts := [], laidByText := true, laidKinds := [.data], laidTests := true, laidLooks := .later }
def FnExactSettleGroundCardSaid : Prop := Claim7.holds Tryd.pinned (.plain (OpenSpec.ofChange fnExactSettleGroundSpec)) fnExactSettleGroundCard

/-- THE TIED CARD OF 'laws.FnExactIsStill'. -/
def fnExactIsStillCard : Claim7 := { stood := { row := fnExactIsStillRow, standIns := [], harness := (true, "ce041e5300c844dc93370711987d966b05a8eeff5da6fb9fabb473f4ce07b24f"), looks := true }, kinds := [], alts := [], laidByText := true, laidKinds := [.data], laidTests := true, laidLooks := .later }
def FnExactIsStillCardSaid : Prop := Claim7.holds Tryd.pinned (.plain (OpenSpec.ofChange fnExactIsStillSpec)) fnExactIsStillCard

/-- THE TIED CARD OF 'laws.FnExactWaterPath'. -/
def fnExactWaterPathCard : Claim7 := { stood := { row := fnExactWaterPathRow, standIns := [], harness := (true, "ce041e5300c844dc93370711987d966b05a8eeff5da6fb9fabb473f4ce07b24f"), looks := true }, kinds := [], alts := [], laidByText := true, laidKinds := [.data], laidTests := true, laidLooks := .later }
def FnExactWaterPathCardSaid : Prop := Claim7.holds Tryd.pinned (.plain (OpenSpec.ofChange fnExactWaterPathSpec)) fnExactWaterPathCard

/-- THE TIED CARD OF 'laws.FnExactBasinOf'. -/
def fnExactBasinOfCard : Claim7 := { stood := { row := fnExactBasinOfRow, standIns := [], harness := (true, "ce041e5300c844dc93370711987d966b05a8eeff5da6fb9fabb473f4ce07b24f"), looks := true }, kinds := [], alts := [], laidByText := true, laidKinds := [.data], laidTests := true, laidLooks := .later }
def FnExactBasinOfCardSaid : Prop := Claim7.holds Tryd.pinned (.plain (OpenSpec.ofChange fnExactBasinOfSpec)) fnExactBasinOfCard

/-- THE TIED CARD OF 'laws.FnExactPumpAt'. -/
def fnExactPumpAtCard : Claim7 := { stood := { row := fnExactPumpAtRow, standIns := [], harness := (true, "ce041e5300c844dc93370711987d966b05a8eeff5da6fb9fabb473f4ce07b24f"), looks := true }, kinds := [], alts := [], laidByText := true, laidKinds := [.data], laidTests := true, laidLooks := .later }
def FnExactPumpAtCardSaid : Prop := Claim7.holds Tryd.pinned (.plain (OpenSpec.ofChange fnExactPumpAtSpec)) fnExactPumpAtCard

/-- THE SECOND FORM's CARD OF 'laws.FnExactFedCells'. -/
def fnExactFedCellsUptoCard : Claim7 := { stood := { row := fnExactFedCellsUptoRow, standIns := [], harness := (true, "ce041e5300c844dc93370711987d966b05a8eeff5da6fb9fabb473f4ce07b24f"), looks := true }, kinds := [], alts := [], laidByText := true, laidKinds := [.data], laidTests := true, laidLooks := .later }
def FnExactFedCellsUptoCardSaid : Prop := Claim7.holds Tryd.pinned (.plain (OpenSpec.upto fnExactFedCellsSpec)) fnExactFedCellsUptoCard

/-- THE SECOND FORM's CARD OF 'laws.FnExactStepAtOnce'. -/
def fnExactStepAtOnceUptoCard : Claim7 := { stood := { row := fnExactStepAtOnceUptoRow, standIns := [], harness := (true, "ce041e5300c844dc93370711987d966b05a8eeff5da6fb9fabb473f4ce07b24f"), looks := true }, kinds := [], alts := [], laidByText := true, laidKinds := [.data], laidTests := true, laidLooks := .later }
def FnExactStepAtOnceUptoCardSaid : Prop := Claim7.holds Tryd.pinned (.plain (OpenSpec.upto fnExactStepAtOnceSpec)) fnExactStepAtOnceUptoCard

/-- THE SECOND FORM's CARD OF 'laws.FnExactSweepInOrder'. -/
def fnExactSweepInOrderUptoCard : Claim7 := { stood := { row := fnExactSweepInOrderUptoRow, standIns := [], harness := (true, "ce041e5300c844dc93370711987d966b05a8eeff5da6fb9fabb473f4ce07b24f"), looks := true }, kinds := [], alts := [], laidByText := true, laidKinds := [.data], laidTests := true, laidLooks := .later }
def FnExactSweepInOrderUptoCardSaid : Prop := Claim7.holds Tryd.pinned (.plain (OpenSpec.upto fnExactSweepInOrderSpec)) fnExactSweepInOrderUptoCard

/-- THE SECOND FORM's CARD OF 'laws.FnExactSweepColour'. -/
def fnExactSweepColourUptoCard : Claim7 := { stood := { row := fnExactSweepColourUptoRow, standIns := [], harness := (true, "ce041e5300c844dc93370711987d966b05a8eeff5da6fb9fabb473f4ce07b24f"), looks := true }, kinds := [], alts := [], laidByText := true, laidKinds := [.data], laidTests := true, laidLooks := .later }
def FnExactSweepColourUptoCardSaid : Prop := Claim7.holds Tryd.pinned (.plain (OpenSpec.upto fnExactSweepColourSpec)) fnExactSweepColourUptoCard

/-- THE SECOND FORM's CARD OF 'laws.FnExactSweepBoth'. -/
def fnExactSweepBothUptoCard : Claim7 := { stood := { row := fnExactSweepBothUptoRow, standIns := [], harness := (true, "ce041e5300c844dc93370711987d966b05a8eeff5da6fb9fabb473f4ce07b24f"), looks := true }, kinds := [], alts := [], laidByText := true, laidKinds := [.data], laidTests := true, laidLooks := .later }
def FnExactSweepBothUptoCardSaid : Prop := Claim7.holds Tryd.pinned (.plain (OpenSpec.upto fnExactSweepBothSpec)) fnExactSweepBothUptoCard

/-- THE SECOND FORM's CARD OF 'laws.FnExactRelaxedSweep'. -/
def fnExactRelaxedSweepUptoCard : Claim7 := { stood := { row := fnExactRelaxedSweepUptoRow, standIns := [], harness := (true, "ce041e5300c844dc93370711987d966b05a8eeff5da6fb9fabb473f4ce07b24f"), looks := true }, kinds := [], alts := [], laidByText := true, laidKinds := [.data], laidTests := true, laidLooks := .later }
def FnExactRelaxedSweepUptoCardSaid : Prop := Claim7.holds Tryd.pinned (.plain (OpenSpec.upto fnExactRelaxedSweepSpec)) fnExactRelaxedSweepUptoCard

/-- THE SECOND FORM's CARD OF 'laws.FnExactSettleGround'. -/
def fnExactSettleGroundUptoCard : Claim7 := { stood := { row := fnExactSettleGroundUptoRow, standIns := [], harness := (true, "ce041e5300c844dc93370711987d966b05a8eeff5da6fb9fabb473f4ce07b24f"), looks := true }, kinds := [], alts := [], laidByText := true, laidKinds := [.data], laidTests := true, laidLooks := .later }
def FnExactSettleGroundUptoCardSaid : Prop := Claim7.holds Tryd.pinned (.plain (OpenSpec.upto fnExactSettleGroundSpec)) fnExactSettleGroundUptoCard

/-- THE SECOND FORM's CARD OF 'laws.FnExactIsStill'. -/
def fnExactIsStillUptoCard : Claim7 := { stood := { row := fnExactIsStillUptoRow, standIns := [], harness := (true, "ce041e5300c844dc93370711987d966b05a8eeff5da6fb9fabb473f4ce07b24f"), looks := true }, kinds := [], alts := [], laidByText := true, laidKinds := [.data], laidTests := true, laidLooks := .later }
def FnExactIsStillUptoCardSaid : Prop := Claim7.holds Tryd.pinned (.plain (OpenSpec.upto fnExactIsStillSpec)) fnExactIsStillUptoCard

/-- THE SECOND FORM's CARD OF 'laws.FnExactWaterPath'. -/
def fnExactWaterPathUptoCard : Claim7 := { stood := { row := fnExactWaterPathUptoRow, standIns := [], harness := (true, "ce041e5300c844dc93370711987d966b05a8eeff5da6fb9fabb473f4ce07b24f"), looks := true }, kinds := [], alts := [], laidByText := true, laidKinds := [.data], laidTests := true, laidLooks := .later }
def FnExactWaterPathUptoCardSaid : Prop := Claim7.holds Tryd.pinned (.plain (OpenSpec.upto fnExactWaterPathSpec)) fnExactWaterPathUptoCard

/-- THE SECOND FORM's CARD OF 'laws.FnExactBasinOf'. -/
def fnExactBasinOfUptoCard : Claim7 := { stood := { row := fnExactBasinOfUptoRow, standIns := [], harness := (true, "ce041e5300c844dc93370711987d966b05a8eeff5da6fb9fabb473f4ce07b24f"), looks := true }, kinds := [], alts := [], laidByText := true, laidKinds := [.data], laidTests := true, laidLooks := .later }
def FnExactBasinOfUptoCardSaid : Prop := Claim7.holds Tryd.pinned (.plain (OpenSpec.upto fnExactBasinOfSpec)) fnExactBasinOfUptoCard

/-- THE SECOND FORM's CARD OF 'laws.FnExactPumpAt'. -/
def fnExactPumpAtUptoCard : Claim7 := { stood := { row := fnExactPumpAtUptoRow, standIns := [], harness := (true, "ce041e5300c844dc93370711987d966b05a8eeff5da6fb9fabb473f4ce07b24f"), looks := true }, kinds := [], alts := [], laidByText := true, laidKinds := [.data], laidTests := true, laidLooks := .later }
def FnExactPumpAtUptoCardSaid : Prop := Claim7.holds Tryd.pinned (.plain (OpenSpec.upto fnExactPumpAtSpec)) fnExactPumpAtUptoCard
end Rows
end Go.Proofs.YtjoehdlhhahamabDoor
