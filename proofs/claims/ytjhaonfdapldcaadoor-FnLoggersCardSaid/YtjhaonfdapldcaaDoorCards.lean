/-
  DERIVED. GIVEN WITH THE SEED: THE CARDS: each row of YtjhaonfdapldcaaDoorRows.lean that lists a variable, with what it lists TIED to the program's text (the seventh form; the later family's looks); each row that meets fmt, with fmt's text TOLD by the authors' own Lean function (tested against real Go, not proved from fmt's source: count such statements apart). THE CARD IS WHAT COUNTS. Prove the row's statement (the work); the ties are given (YtjhaonfdapldcaaDoorTie.lean); close each card by the builder's one call (the guide's Derived/Test/ToyasCard.lean, 'card_holds'). Laid BY PROGRAM, IN A SANDBOX (cutbox-door.mjs). By AI agents, Wed Nov 11 2026. No macro, syntax, notation, axiom, sorry.
-/
import Derived.Test.YtjhaonfdapldcaaDoorRows
import GoSem.ClaimSeven
namespace Go.Proofs.YtjhaonfdapldcaaDoor
namespace Rows

/-- THE TIED CARD OF 'laws.FnExactFedCells'. -/
def fnExactFedCellsCard : Claim7 := { stood := { row := fnExactFedCellsRow, standIns := [], harness := (true, "10eb2d5355e5a9d49fb3fd905a58a0106f2324d0da1aa91c242239d2adc50b36"), looks := false }, kinds := [], alts := [], laidByText := true, laidKinds := [.data], laidTests := true, laidLooks := .later }
def FnExactFedCellsCardSaid : Prop := Claim7.holds Tryd.pinned (.plain (OpenSpec.ofChange fnExactFedCellsSpec)) fnExactFedCellsCard

/-- THE TIED CARD OF 'laws.FnExactLoggedLevels'. -/
def fnExactLoggedLevelsCard : Claim7 := { stood := { row := fnExactLoggedLevelsRow, standIns := [], harness := (true, "10eb2d5355e5a9d49fb3fd905a58a0106f2324d0da1aa91c242239d2adc50b36"), looks := false }, kinds := [], alts := [], laidByText := true, laidKinds := [.data], laidTests := true, laidLooks := .later }
def FnExactLoggedLevelsCardSaid : Prop := Claim7.holds Tryd.pinned (.plain (OpenSpec.ofChange fnExactLoggedLevelsSpec)) fnExactLoggedLevelsCard

/-- THE TIED CARD OF 'laws.FnPaths'. -/
def fnPathsCard : Claim7 := { stood := { row := fnPathsRow, standIns := [], harness := (true, "10eb2d5355e5a9d49fb3fd905a58a0106f2324d0da1aa91c242239d2adc50b36"), looks := false }, kinds := [], alts := [], laidByText := true, laidKinds := [.data], laidTests := true, laidLooks := .later }
def FnPathsCardSaid : Prop := Claim7.holds Tryd.pinned (.plain (OpenSpec.ofChange fnPathsSpec)) fnPathsCard

/-- THE TIED CARD OF 'laws.FnLoggers'. -/
def fnLoggersCard : Claim7 := { stood := { row := fnLoggersRow, standIns := [], harness := (true, "10eb2d5355e5a9d49fb3fd905a58a0106f2324d0da1aa91c242239d2adc50b36"), looks := false }, kinds := [], alts := [], laidByText := true, laidKinds := [.data], laidTests := true, laidLooks := .later }
def FnLoggersCardSaid : Prop := Claim7.holds Tryd.pinned (.plain (OpenSpec.ofChange fnLoggersSpec)) fnLoggersCard

/-- THE SECOND FORM's CARD OF 'laws.FnExactFedCells'. -/
def fnExactFedCellsUptoCard : Claim7 := { stood := { row := fnExactFedCellsUptoRow, standIns := [], harness := (true, "10eb2d5355e5a9d49fb3fd905a58a0106f2324d0da1aa91c242239d2adc50b36"), looks := false }, kinds := [], alts := [], laidByText := true, laidKinds := [.data], laidTests := true, laidLooks := .later }
def FnExactFedCellsUptoCardSaid : Prop := Claim7.holds Tryd.pinned (.plain (OpenSpec.upto fnExactFedCellsSpec)) fnExactFedCellsUptoCard

/-- THE SECOND FORM's CARD OF 'laws.FnExactLoggedLevels'. -/
def fnExactLoggedLevelsUptoCard : Claim7 := { stood := { row := fnExactLoggedLevelsUptoRow, standIns := [], harness := (true, "10eb2d5355e5a9d49fb3fd905a58a0106f2324d0da1aa91c242239d2adc50b36"), looks := false }, kinds := [], alts := [], laidByText := true, laidKinds := [.data], laidTests := true, laidLooks := .later }
def FnExactLoggedLevelsUptoCardSaid : Prop := Claim7.holds Tryd.pinned (.plain (OpenSpec.upto fnExactLoggedLevelsSpec)) fnExactLoggedLevelsUptoCard

/-- THE SECOND FORM's CARD OF 'laws.FnPaths'. -/
def fnPathsUptoCard : Claim7 := { stood := { row := fnPathsUptoRow, standIns := [], harness := (true, "10eb2d5355e5a9d49fb3fd905a58a0106f2324d0da1aa91c242239d2adc50b36"), looks := false }, kinds := [], alts := [], laidByText := true, laidKinds := [.data], laidTests := true, laidLooks := .later }
def FnPathsUptoCardSaid : Prop := Claim7.holds Tryd.pinned (.plain (OpenSpec.upto fnPathsSpec)) fnPathsUptoCard

/-- THE SECOND FORM's CARD OF 'laws.FnLoggers'. -/
def fnLoggersUptoCard : Claim7 := { stood := { row := fnLoggersUptoRow, standIns := [], harness := (true, "10eb2d5355e5a9d49fb3fd905a58a0106f2324d0da1aa91c242239d2adc50b36"), looks := false }, kinds := [], alts := [], laidByText := true, laidKinds := [.data], laidTests := true, laidLooks := .later }
def FnLoggersUptoCardSaid : Prop := Claim7.holds Tryd.pinned (.plain (OpenSpec.upto fnLoggersSpec)) fnLoggersUptoCard
end Rows
end Go.Proofs.YtjhaonfdapldcaaDoor
