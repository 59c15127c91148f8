/-
  DERIVED. GIVEN WITH THE SEED: THE CARDS: each row of YthacifhphoaioaaDoorRows.lean that lists a variable, with what it lists TIED to the program's text (the seventh form; the later family's looks); each row that meets fmt, with fmt's text TOLD by the authors' own Lean function (tested against real Go, not proved from fmt's source: count such statements apart). THE CARD IS WHAT COUNTS. Prove the row's statement (the work); the ties are given (YthacifhphoaioaaDoorTie.lean); close each card by the builder's one call (the guide's Derived/Test/ToyasCard.lean, 'card_holds'). Laid BY PROGRAM, IN A SANDBOX (cutbox-door.mjs). By AI agents, Wed Nov 11 2026. No macro, syntax, notation, axiom, sorry.
-/
import Derived.Test.YthacifhphoaioaaDoorRows
import GoSem.ClaimSeven
namespace Go.Proofs.YthacifhphoaioaaDoor
namespace Rows

/-- THE TIED CARD OF 'laws.FnExactReadingsFrom'. -/
def fnExactReadingsFromCard : Claim7 := { stood := { row := fnExactReadingsFromRow, standIns := [], harness := (true, "3d3091c9ddb534619d877461f6541b6d5db9323cc48bcc587c300f9a585e7779"), looks := true }, kinds := [], alts := [], laidByText := true, laidKinds := [.sentinel, .sentinel, .sentinel, .sentinel, .sentinel], laidTests := true, laidLooks := .later }
def FnExactReadingsFromCardSaid : Prop := Claim7.holds Tryd.pinned (.plain (OpenSpec.ofChange fnExactReadingsFromSpec)) fnExactReadingsFromCard

/-- THE TIED CARD OF 'laws.FnExactLineThrough'. -/
def fnExactLineThroughCard : Claim7 := { stood := { row := fnExactLineThroughRow, standIns := [], harness := (true, "3d3091c9ddb534619d877461f6541b6d5db9323cc48bcc587c300f9a585e7779"), looks := true }, kinds := [], alts := [], laidByText := true, laidKinds := [.sentinel, .sentinel, .sentinel, .sentinel, .sentinel], laidTests := true, laidLooks := .later }
def FnExactLineThroughCardSaid : Prop := Claim7.holds Tryd.pinned (.plain (OpenSpec.ofChange fnExactLineThroughSpec)) fnExactLineThroughCard

/-- THE TIED CARD OF 'laws.FnExactWorstReading'. -/
def fnExactWorstReadingCard : Claim7 := { stood := { row := fnExactWorstReadingRow, standIns := [], harness := (true, "3d3091c9ddb534619d877461f6541b6d5db9323cc48bcc587c300f9a585e7779"), looks := true }, kinds := [], alts := [], laidByText := true, laidKinds := [.sentinel, .sentinel, .sentinel, .sentinel, .sentinel], laidTests := true, laidLooks := .later }
def FnExactWorstReadingCardSaid : Prop := Claim7.holds Tryd.pinned (.plain (OpenSpec.ofChange fnExactWorstReadingSpec)) fnExactWorstReadingCard

/-- THE TIED CARD OF 'laws.FnExactBestGuess'. -/
def fnExactBestGuessCard : Claim7 := { stood := { row := fnExactBestGuessRow, standIns := [], harness := (true, "3d3091c9ddb534619d877461f6541b6d5db9323cc48bcc587c300f9a585e7779"), looks := true }, kinds := [], alts := [], laidByText := true, laidKinds := [.sentinel, .sentinel, .sentinel, .sentinel, .sentinel], laidTests := true, laidLooks := .later }
def FnExactBestGuessCardSaid : Prop := Claim7.holds Tryd.pinned (.plain (OpenSpec.ofChange fnExactBestGuessSpec)) fnExactBestGuessCard

/-- THE TIED CARD OF 'laws.FnExactFitFrom'. -/
def fnExactFitFromCard : Claim7 := { stood := { row := fnExactFitFromRow, standIns := [], harness := (true, "3d3091c9ddb534619d877461f6541b6d5db9323cc48bcc587c300f9a585e7779"), looks := true }, kinds := [], alts := [], laidByText := true, laidKinds := [.sentinel, .sentinel, .sentinel, .sentinel, .sentinel], laidTests := true, laidLooks := .later }
def FnExactFitFromCardSaid : Prop := Claim7.holds Tryd.pinned (.plain (OpenSpec.ofChange fnExactFitFromSpec)) fnExactFitFromCard

/-- THE TIED CARD OF 'laws.FnExactFitsWithin'. -/
def fnExactFitsWithinCard : Claim7 := { stood := { row := fnExactFitsWithinRow, standIns := [], harness := (true, "3d3091c9ddb534619d877461f6541b6d5db9323cc48bcc587c300f9a585e7779"), looks := true }, kinds := [], alts := [], laidByText := true, laidKinds := [.sentinel, .sentinel, .sentinel, .sentinel, .sentinel], laidTests := true, laidLooks := .later }
def FnExactFitsWithinCardSaid : Prop := Claim7.holds Tryd.pinned (.plain (OpenSpec.ofChange fnExactFitsWithinSpec)) fnExactFitsWithinCard

/-- THE TIED CARD OF 'laws.FnExactTransmitSpan'. -/
def fnExactTransmitSpanCard : Claim7 := { stood := { row := fnExactTransmitSpanRow, standIns := [], harness := (true, "3d3091c9ddb534619d877461f6541b6d5db9323cc48bcc587c300f9a585e7779"), looks := true }, kinds := [], alts := [], laidByText := true, laidKinds := [.sentinel, .sentinel, .sentinel, .sentinel, .sentinel], laidTests := true, laidLooks := .later }
def FnExactTransmitSpanCardSaid : Prop := Claim7.holds Tryd.pinned (.plain (OpenSpec.ofChange fnExactTransmitSpanSpec)) fnExactTransmitSpanCard

/-- THE TIED CARD OF 'laws.FnExactMedianSlope'. -/
def fnExactMedianSlopeCard : Claim7 := { stood := { row := fnExactMedianSlopeRow, standIns := [], harness := (true, "3d3091c9ddb534619d877461f6541b6d5db9323cc48bcc587c300f9a585e7779"), looks := true }, kinds := [], alts := [], laidByText := true, laidKinds := [.sentinel, .sentinel, .sentinel, .sentinel, .sentinel], laidTests := true, laidLooks := .later }
def FnExactMedianSlopeCardSaid : Prop := Claim7.holds Tryd.pinned (.plain (OpenSpec.ofChange fnExactMedianSlopeSpec)) fnExactMedianSlopeCard

/-- THE SECOND FORM's CARD OF 'laws.FnExactReadingsFrom'. -/
def fnExactReadingsFromUptoCard : Claim7 := { stood := { row := fnExactReadingsFromUptoRow, standIns := [], harness := (true, "3d3091c9ddb534619d877461f6541b6d5db9323cc48bcc587c300f9a585e7779"), looks := true }, kinds := [], alts := [], laidByText := true, laidKinds := [.sentinel, .sentinel, .sentinel, .sentinel, .sentinel], laidTests := true, laidLooks := .later }
def FnExactReadingsFromUptoCardSaid : Prop := Claim7.holds Tryd.pinned (.plain (OpenSpec.upto fnExactReadingsFromSpec)) fnExactReadingsFromUptoCard

/-- THE SECOND FORM's CARD OF 'laws.FnExactLineThrough'. -/
def fnExactLineThroughUptoCard : Claim7 := { stood := { row := fnExactLineThroughUptoRow, standIns := [], harness := (true, "3d3091c9ddb534619d877461f6541b6d5db9323cc48bcc587c300f9a585e7779"), looks := true }, kinds := [], alts := [], laidByText := true, laidKinds := [.sentinel, .sentinel, .sentinel, .sentinel, .sentinel], laidTests := true, laidLooks := .later }
def FnExactLineThroughUptoCardSaid : Prop := Claim7.holds Tryd.pinned (.plain (OpenSpec.upto fnExactLineThroughSpec)) fnExactLineThroughUptoCard

/-- THE SECOND FORM's CARD OF 'laws.FnExactWorstReading'. -/
def fnExactWorstReadingUptoCard : Claim7 := { stood := { row := fnExactWorstReadingUptoRow, standIns := [], harness := (true, "3d3091c9ddb534619d877461f6541b6d5db9323cc48bcc587c300f9a585e7779"), looks := true }, kinds := [], alts := [], laidByText := true, laidKinds := [.sentinel, .sentinel, .sentinel, .sentinel, .sentinel], laidTests := true, laidLooks := .later }
def FnExactWorstReadingUptoCardSaid : Prop := Claim7.holds Tryd.pinned (.plain (OpenSpec.upto fnExactWorstReadingSpec)) fnExactWorstReadingUptoCard

/-- THE SECOND FORM's CARD OF 'laws.FnExactBestGuess'. -/
def fnExactBestGuessUptoCard : Claim7 := { stood := { row := fnExactBestGuessUptoRow, standIns := [], harness := (true, "3d3091c9ddb534619d877461f6541b6d5db9323cc48bcc587c300f9a585e7779"), looks := true }, kinds := [], alts := [], laidByText := true, laidKinds := [.sentinel, .sentinel, .sentinel, .sentinel, .sentinel], laidTests := true, laidLooks := .later }
def FnExactBestGuessUptoCardSaid : Prop := Claim7.holds Tryd.pinned (.plain (OpenSpec.upto fnExactBestGuessSpec)) fnExactBestGuessUptoCard

/-- THE SECOND FORM's CARD OF 'laws.FnExactFitFrom'. -/
def fnExactFitFromUptoCard : Claim7 := { stood := { row := fnExactFitFromUptoRow, standIns := [], harness := (true, "3d3091c9ddb534619d877461f6541b6d5db9323cc48bcc587c300f9a585e7779"), looks := true }, kinds := [], alts := [], laidByText := true, laidKinds := [.sentinel, .sentinel, .sentinel, .sentinel, .sentinel], laidTests := true, laidLooks := .later }
def FnExactFitFromUptoCardSaid : Prop := Claim7.holds Tryd.pinned (.plain (OpenSpec.upto fnExactFitFromSpec)) fnExactFitFromUptoCard

/-- THE SECOND FORM's CARD OF 'laws.FnExactFitsWithin'. -/
def fnExactFitsWithinUptoCard : Claim7 := { stood := { row := fnExactFitsWithinUptoRow, standIns := [], harness := (true, "3d3091c9ddb534619d877461f6541b6d5db9323cc48bcc587c300f9a585e7779"), looks := true }, kinds := [], alts := [], laidByText := true, laidKinds := [.sentinel, .sentinel, .sentinel, .sentinel, .sentinel], laidTests := true, laidLooks := .later }
def FnExactFitsWithinUptoCardSaid : Prop := Claim7.holds Tryd.pinned (.plain (OpenSpec.upto fnExactFitsWithinSpec)) fnExactFitsWithinUptoCard

/-- THE SECOND FORM's CARD OF 'laws.FnExactTransmitSpan'. -/
def fnExactTransmitSpanUptoCard : Claim7 := { stood := { row := fnExactTransmitSpanUptoRow, standIns := [], harness := (true, "3d3091c9ddb534619d877461f6541b6d5db9323cc48bcc587c300f9a585e7779"), looks := true }, kinds := [], alts := [], laidByText := true, laidKinds := [.sentinel, .sentinel, .sentinel, .sentinel, .sentinel], laidTests := true, laidLooks := .later }
def FnExactTransmitSpanUptoCardSaid : Prop := Claim7.holds Tryd.pinned (.plain (OpenSpec.upto fnExactTransmitSpanSpec)) fnExactTransmitSpanUptoCard

/-- THE SECOND FORM's CARD OF 'laws.FnExactMedianSlope'. -/
def fnExactMedianSlopeUptoCard : Claim7 := { stood := { row := fnExactMedianSlopeUptoRow, standIns := [], harness := (true, "3d3091c9ddb534619d877461f6541b6d5db9323cc48bcc587c300f9a585e7779"), looks := true }, kinds := [], alts := [], laidByText := true, laidKinds := [.sentinel, .sentinel, .sentinel, .sentinel, .sentinel], laidTests := true, laidLooks := .later }
def FnExactMedianSlopeUptoCardSaid : Prop := Claim7.holds Tryd.pinned (.plain (OpenSpec.upto fnExactMedianSlopeSpec)) fnExactMedianSlopeUptoCard
end Rows
end Go.Proofs.YthacifhphoaioaaDoor
