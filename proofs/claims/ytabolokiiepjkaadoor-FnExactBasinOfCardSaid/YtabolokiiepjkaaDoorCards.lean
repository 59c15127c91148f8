/-
  DERIVED. GIVEN WITH THE SEED: THE CARDS: each row of YtabolokiiepjkaaDoorRows.lean that lists a variable, with what it lists TIED to the program's text (the seventh form; the later family's looks); each row that meets fmt, with fmt's text TOLD by the authors' own Lean function (tested against real Go, not proved from fmt's source: count such statements apart). THE CARD IS WHAT COUNTS. Prove the row's statement (the work); the ties are given (YtabolokiiepjkaaDoorTie.lean); close each card by the builder's one call (the guide's Derived/Test/ToyasCard.lean, 'card_holds'). Laid BY PROGRAM, IN A SANDBOX (cutbox-door.mjs). By AI agents, Wed Nov 11 2026. No macro, syntax, notation, axiom, sorry.
-/
import Derived.Test.YtabolokiiepjkaaDoorRows
import GoSem.ClaimSeven
namespace Go.Proofs.YtabolokiiepjkaaDoor
namespace Rows

/-- THE TIED CARD OF 'laws.FnExactWaterPath'. -/
def fnExactWaterPathCard : Claim7 := { stood := { row := fnExactWaterPathRow, standIns := [], harness := (true, "a5b059ccec49a312569712e07717032bb8fbabc4a02499dca94c6b77adc832e9"), looks := false }, kinds := [], alts := [], laidByText := true, laidKinds := [.data], laidTests := true, laidLooks := .later }
def FnExactWaterPathCardSaid : Prop := Claim7.holds Tryd.pinned (.plain (OpenSpec.ofChange fnExactWaterPathSpec)) fnExactWaterPathCard

/-- THE TIED CARD OF 'laws.FnExactBasinOf'. -/
def fnExactBasinOfCard : Claim7 := { stood := { row := fnExactBasinOfRow, standIns := [], harness := (true, "a5b059ccec49a312569712e07717032bb8fbabc4a02499dca94c6b77adc832e9"), looks := false }, kinds := [], alts := [], laidByText := true, laidKinds := [.data], laidTests := true, laidLooks := .later }
def FnExactBasinOfCardSaid : Prop := Claim7.holds Tryd.pinned (.plain (OpenSpec.ofChange fnExactBasinOfSpec)) fnExactBasinOfCard

/-- THE TIED CARD OF 'laws.FnExactLoggedLevels'. -/
def fnExactLoggedLevelsCard : Claim7 := { stood := { row := fnExactLoggedLevelsRow, standIns := [], harness := (true, "a5b059ccec49a312569712e07717032bb8fbabc4a02499dca94c6b77adc832e9"), looks := false }, kinds := [], alts := [], laidByText := true, laidKinds := [.data], laidTests := true, laidLooks := .later }
def FnExactLoggedLevelsCardSaid : Prop := Claim7.holds Tryd.pinned (.plain (OpenSpec.ofChange fnExactLoggedLevelsSpec)) fnExactLoggedLevelsCard

/-- THE TIED CARD OF 'laws.FnExactFedCells'. -/
def fnExactFedCellsCard : Claim7 := { stood := { row := fnExactFedCellsRow, standIns := [], harness := (true, "a5b059ccec49a312569712e07717032bb8fbabc4a02499dca94c6b77adc832e9"), looks := false }, kinds := [], alts := [], laidByText := true, laidKinds := [.data], laidTests := true, laidLooks := .later }
def FnExactFedCellsCardSaid : Prop := Claim7.holds Tryd.pinned (.plain (OpenSpec.ofChange fnExactFedCellsSpec)) fnExactFedCellsCard

/-- THE SECOND FORM's CARD OF 'laws.FnExactWaterPath'. -/
def fnExactWaterPathUptoCard : Claim7 := { stood := { row := fnExactWaterPathUptoRow, standIns := [], harness := (true, "a5b059ccec49a312569712e07717032bb8fbabc4a02499dca94c6b77adc832e9"), looks := false }, kinds := [], alts := [], laidByText := true, laidKinds := [.data], laidTests := true, laidLooks := .later }
def FnExactWaterPathUptoCardSaid : Prop := Claim7.holds Tryd.pinned (.plain (OpenSpec.upto fnExactWaterPathSpec)) fnExactWaterPathUptoCard

/-- THE SECOND FORM's CARD OF 'laws.FnExactBasinOf'. -/
def fnExactBasinOfUptoCard : Claim7 := { stood := { row := fnExactBasinOfUptoRow, standIns := [], harness := (true, "a5b059ccec49a312569712e07717032bb8fbabc4a02499dca94c6b77adc832e9"), looks := false }, kinds := [], alts := [], laidByText := true, laidKinds := [.data], laidTests := true, laidLooks := .later }
def FnExactBasinOfUptoCardSaid : Prop := Claim7.holds Tryd.pinned (.plain (OpenSpec.upto fnExactBasinOfSpec)) fnExactBasinOfUptoCard

/-- THE SECOND FORM's CARD OF 'laws.FnExactLoggedLevels'. -/
def fnExactLoggedLevelsUptoCard : Claim7 := { stood := { row := fnExactLoggedLevelsUptoRow, standIns := [], harness := (true, "a5b059ccec49a312569712e07717032bb8fbabc4a02499dca94c6b77adc832e9"), looks := false }, kinds := [], alts := [], laidByText := true, laidKinds := [.data], laidTests := true, laidLooks := .later }
def FnExactLoggedLevelsUptoCardSaid : Prop := Claim7.holds Tryd.pinned (.plain (OpenSpec.upto fnExactLoggedLevelsSpec)) fnExactLoggedLevelsUptoCard

/-- THE SECOND FORM's CARD OF 'laws.FnExactFedCells'. -/
def fnExactFedCellsUptoCard : Claim7 := { stood := { row := fnExactFedCellsUptoRow, standIns := [], harness := (true, "a5b059ccec49a312569712e07717032bb8fbabc4a02499dca94c6b77adc832e9"), looks := false }, kinds := [], alts := [], laidByText := true, laidKinds := [.data], laidTests := true, laidLooks := .later }
def FnExactFedCellsUptoCardSaid : Prop := Claim7.holds Tryd.pinned (.plain (OpenSpec.upto fnExactFedCellsSpec)) fnExactFedCellsUptoCard
end Rows
end Go.Proofs.YtabolokiiepjkaaDoor
