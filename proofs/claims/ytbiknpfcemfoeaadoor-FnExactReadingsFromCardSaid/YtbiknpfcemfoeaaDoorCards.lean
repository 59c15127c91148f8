/-
  DERIVED. GIVEN WITH THE SEED: THE CARDS: each row of YtbiknpfcemfoeaaDoorRows.lean that lists a variable, with what it lists TIED to the program's text (the seventh form; the later family's looks); each row that meets fmt, with fmt's text TOLD by the authors' own Lean function (tested against real Go, not proved from fmt's source: count such statements apart). THE CARD IS WHAT COUNTS. Prove the row's statement (the work); the ties are given (YtbiknpfcemfoeaaDoorTie.lean); close each card by the builder's one call (the guide's Derived/Test/ToyasCard.lean, 'card_holds'). Laid BY PROGRAM, IN A SANDBOX (cutbox-door.mjs). By AI agents, Wed Nov 11 2026. No macro, syntax, notation, axiom, sorry.
-/
import Derived.Test.YtbiknpfcemfoeaaDoorRows
import GoSem.ClaimSeven
namespace Go.Proofs.YtbiknpfcemfoeaaDoor
namespace Rows

/-- THE TIED CARD OF 'laws.FnExactLineThrough'. -/
def fnExactLineThroughCard : Claim7 := { stood := { row := fnExactLineThroughRow, standIns := [], harness := (true, "dae57088004ebba28ec83750136ab46e5870fd434cce2fda2ad14ccf3f8a0880"), looks := true }, kinds := [], alts := [], laidByText := true, laidKinds := [.sentinel, .sentinel, .sentinel, .sentinel, .sentinel], laidTests := true, laidLooks := .later }
def FnExactLineThroughCardSaid : Prop := Claim7.holds Tryd.pinned (.plain (OpenSpec.ofChange fnExactLineThroughSpec)) fnExactLineThroughCard

/-- THE TIED CARD OF 'laws.FnExactReadingsFrom'. -/
def fnExactReadingsFromCard : Claim7 := { stood := { row := fnExactReadingsFromRow, standIns := [], harness := (true, "dae57088004ebba28ec83750136ab46e5870fd434cce2fda2ad14ccf3f8a0880"), looks := true }, kinds := [], alts := [], laidByText := true, laidKinds := [.sentinel, .sentinel, .sentinel, .sentinel, .sentinel], laidTests := true, laidLooks := .later }
def FnExactReadingsFromCardSaid : Prop := Claim7.holds Tryd.pinned (.plain (OpenSpec.ofChange fnExactReadingsFromSpec)) fnExactReadingsFromCard

/-- THE TIED CARD OF 'laws.FnExactMedianSlope'. -/
def fnExactMedianSlopeCard : Claim7 := { stood := { row := fnExactMedianSlopeRow, standIns := [], harness := (true, "dae57088004ebba28ec83750136ab46e5870fd434cce2fda2ad14ccf3f8a0880"), looks := true }, kinds := [], alts := [], laidByText := true, laidKinds := [.sentinel, .sentinel, .sentinel, .sentinel, .sentinel], laidTests := true, laidLooks := .later }
def FnExactMedianSlopeCardSaid : Prop := Claim7.holds Tryd.pinned (.plain (OpenSpec.ofChange fnExactMedianSlopeSpec)) fnExactMedianSlopeCard

/-- THE TIED CARD OF 'laws.FnExactFitFrom'. -/
def fnExactFitFromCard : Claim7 := { stood := { row := fnExactFitFromRow, standIns := [], harness := (true, "dae57088004ebba28ec83750136ab46e5870fd434cce2fda2ad14ccf3f8a0880"), looks := true }, kinds := [], alts := [], laidByText := true, laidKinds := [.sentinel, .sentinel, .sentinel, .sentinel, .sentinel], laidTests := true, laidLooks := .later }
def FnExactFitFromCardSaid : Prop := Claim7.holds Tryd.pinned (.plain (OpenSpec.ofChange fnExactFitFromSpec)) fnExactFitFromCard

/-- THE SECOND FORM's CARD OF 'laws.FnExactLineThrough'. -/
def fnExactLineThroughUptoCard : Claim7 := { stood := { row := fnExactLineThroughUptoRow, standIns := [], harness := (true, "dae57088004ebba28ec83750136ab46e5870fd434cce2fda2ad14ccf3f8a0880"), looks := true }, kinds := [], alts := [], laidByText := true, laidKinds := [.sentinel, .sentinel, .sentinel, .sentinel, .sentinel], laidTests := true, laidLooks := .later }
def FnExactLineThroughUptoCardSaid : Prop := Claim7.holds Tryd.pinned (.plain (OpenSpec.upto fnExactLineThroughSpec)) fnExactLineThroughUptoCard

/-- THE SECOND FORM's CARD OF 'laws.FnExactReadingsFrom'. -/
def fnExactReadingsFromUptoCard : Claim7 := { stood := { row := fnExactReadingsFromUptoRow, standIns := [], harness := (true, "dae57088004ebba28ec83750136ab46e5870fd434cce2fda2ad14ccf3f8a0880"), looks := true }, kinds := [], alts := [], laidByText := true, laidKinds := [.sentinel, .sentinel, .sentinel, .sentinel, .sentinel], laidTests := true, laidLooks := .later }
def FnExactReadingsFromUptoCardSaid : Prop := Claim7.holds Tryd.pinned (.plain (OpenSpec.upto fnExactReadingsFromSpec)) fnExactReadingsFromUptoCard

/-- THE SECOND FORM's CARD OF 'laws.FnExactMedianSlope'. -/
def fnExactMedianSlopeUptoCard : Claim7 := { stood := { row := fnExactMedianSlopeUptoRow, standIns := [], harness := (true, "dae57088004ebba28ec83750136ab46e5870fd434cce2fda2ad14ccf3f8a0880"), looks := true }, kinds := [], alts := [], laidByText := true, laidKinds := [.sentinel, .sentinel, .sentinel, .sentinel, .sentinel], laidTests := true, laidLooks := .later }
def FnExactMedianSlopeUptoCardSaid : Prop := Claim7.holds Tryd.pinned (.plain (OpenSpec.upto fnExactMedianSlopeSpec)) fnExactMedianSlopeUptoCard

/-- THE SECOND FORM's CARD OF 'laws.FnExactFitFrom'. -/
def fnExactFitFromUptoCard : Claim7 := { stood := { row := fnExactFitFromUptoRow, standIns := [], harness := (true, "dae57088004ebba28ec83750136ab46e5870fd434cce2fda2ad14ccf3f8a0880"), looks := true }, kinds := [], alts := [], laidByText := true, laidKinds := [.sentinel, .sentinel, .sentinel, .sentinel, .sentinel], laidTests := true, laidLooks := .later }
def FnExactFitFromUptoCardSaid : Prop := Claim7.holds Tryd.pinned (.plain (OpenSpec.upto fnExactFitFromSpec)) fnExactFitFromUptoCard
end Rows
end Go.Proofs.YtbiknpfcemfoeaaDoor
