/-
  DERIVED. GIVEN WITH THE SEED: THE CARDS: each row of YthncidjgpbjdbaaDoorRows.lean that lists a variable, with what it lists TIED to the program's text (the seventh form; the later family's looks); each row that meets fmt, with fmt's text TOLD by the authors' own Lean function (tested against real Go, not proved from fmt's source: count such statements apart). THE CARD IS WHAT COUNTS. Prove the row's statement (the work); the ties are given (YthncidjgpbjdbaaDoorTie.lean); close each card by the builder's one call (the guide's Derived/Test/ToyasCard.lean, 'card_holds'). Laid BY PROGRAM, IN A SANDBOX (cutbox-door.mjs). By AI agents, Wed Nov 11 2026. No macro, syntax, notation, axiom, sorry.
-/
import Derived.Test.YthncidjgpbjdbaaDoorRows
import GoSem.ClaimSeven
namespace Go.Proofs.YthncidjgpbjdbaaDoor
namespace Rows

/-- THE TIED CARD OF 'laws.FnExactValidOffice'. -/
def fnExactValidOfficeCard : Claim7 := { stood := { row := fnExactValidOfficeRow, standIns := [], harness := (true, "bcf2fdb4ccdaed7793e036323bea2243d052d82aa18f916f598a0b93a592169e"), looks := true }, kinds := [], alts := [], laidByText := true, laidKinds := [.data], laidTests := true, laidLooks := .later }
def FnExactValidOfficeCardSaid : Prop := Claim7.holds Tryd.pinned (.plain (OpenSpec.ofChange fnExactValidOfficeSpec)) fnExactValidOfficeCard

/-- THE TIED CARD OF 'laws.FnExactValidPermits'. -/
def fnExactValidPermitsCard : Claim7 := { stood := { row := fnExactValidPermitsRow, standIns := [], harness := (true, "bcf2fdb4ccdaed7793e036323bea2243d052d82aa18f916f598a0b93a592169e"), looks := true }, kinds := [], alts := [], laidByText := true, laidKinds := [.data], laidTests := true, laidLooks := .later }
def FnExactValidPermitsCardSaid : Prop := Claim7.holds Tryd.pinned (.plain (OpenSpec.ofChange fnExactValidPermitsSpec)) fnExactValidPermitsCard

/-- THE TIED CARD OF 'laws.FnExactLoggedLevels'. -/
def fnExactLoggedLevelsCard : Claim7 := { stood := { row := fnExactLoggedLevelsRow, standIns := [], harness := (true, "bcf2fdb4ccdaed7793e036323bea2243d052d82aa18f916f598a0b93a592169e"), looks := true }, kinds := [], alts := [], laidByText := true, laidKinds := [.data], laidTests := true, laidLooks := .later }
def FnExactLoggedLevelsCardSaid : Prop := Claim7.holds Tryd.pinned (.plain (OpenSpec.ofChange fnExactLoggedLevelsSpec)) fnExactLoggedLevelsCard

/-- THE TIED CARD OF 'laws.FnExactFedCells'. -/
def fnExactFedCellsCard : Claim7 := { stood := { row := fnExactFedCellsRow, standIns := [], harness := (true, "bcf2fdb4ccdaed7793e036323bea2243d052d82aa18f916f598a0b93a592169e"), looks := true }, kinds := [], alts := [], laidByText := true, laidKinds := [.data], laidTests := true, laidLooks := .later }
def FnExactFedCellsCardSaid : Prop := Claim7.holds Tryd.pinned (.plain (OpenSpec.ofChange fnExactFedCellsSpec)) fnExactFedCellsCard

/-- THE TIED CARD OF 'laws.FnExactWaterPath'. -/
def fnExactWaterPathCard : Claim7 := { stood := { row := fnExactWaterPathRow, standIns := [], harness := (true, "bcf2fdb4ccdaed7793e036323bea2243d052d82aa18f916f598a0b93a592169e"), looks := true }, kinds := [], alts := [], laidByText := true, laidKinds := [.data], laidTests := true, laidLooks := .later }
def FnExactWaterPathCardSaid : Prop := Claim7.holds Tryd.pinned (.plain (OpenSpec.ofChange fnExactWaterPathSpec)) fnExactWaterPathCard

/-- THE TIED CARD OF 'laws.FnExactBasinOf'. -/
def fnExactBasinOfCard : Claim7 := { stood := { row := fnExactBasinOfRow, standIns := [], harness := (true, "bcf2fdb4ccdaed7793e036323bea2243d052d82aa18f916f598a0b93a592169e"), looks := true }, kinds := [], alts := [], laidByText := true, laidKinds := [.data], laidTests := true, laidLooks := .later }
def FnExactBasinOfCardSaid : Prop := Claim7.holds Tryd.pinned (.plain (OpenSpec.ofChange fnExactBasinOfSpec)) fnExactBasinOfCard

/-- THE TIED CARD OF 'laws.FnExactSafeStep'. -/
def fnExactSafeStepCard : Claim7 := { stood := { row := fnExactSafeStepRow, standIns := [], harness := (true, "bcf2fdb4ccdaed7793e036323bea2243d052d82aa18f916f598a0b93a592169e"), looks := true }, kinds := [], alts := [], laidByText := true, laidKinds := [.data], laidTests := true, laidLooks := .later }
def FnExactSafeStepCardSaid : Prop := Claim7.holds Tryd.pinned (.plain (OpenSpec.ofChange fnExactSafeStepSpec)) fnExactSafeStepCard

/-- THE TIED CARD OF 'laws.FnExactStepGround'. -/
def fnExactStepGroundCard : Claim7 := { stood := { row := fnExactStepGroundRow, standIns := [], harness := (true, "bcf2fdb4ccdaed7793e036323bea2243d052d82aa18f916f598a0b93a592169e"), looks := true }, kinds := [], alts := [], laidByText := true, laidKinds := [.data], laidTests := true, laidLooks := .later }
def FnExactStepGroundCardSaid : Prop := Claim7.holds Tryd.pinned (.plain (OpenSpec.ofChange fnExactStepGroundSpec)) fnExactStepGroundCard

/-- THE TIED CARD OF 'laws.FnExactStepsOf'. -/
def fnExactStepsOfCard : Claim7 := { stood := { row := fnExactStepsOfRow, standIns := [], harness := (true, "bcf2fdb4ccdaed7793e036323bea2243d052d82aa18f916f598a0b93a592169e"), looks := true }, kinds := [], alts := [], laidByText := true, laidKinds := [.data], laidTests := true, laidLooks := .later }
def FnExactStepsOfCardSaid : Prop := Claim7.holds Tryd.pinned (.plain (OpenSpec.ofChange fnExactStepsOfSpec)) fnExactStepsOfCard

/-- THE TIED CARD OF 'laws.FnExactStepsUntilStill'. -/
def fnExactStepsUntilStillCard : Claim7 := { stood := { row := fnExactStepsUntilStillRow, standIns := [], harness := (true, "bcf2fdb4ccdaed7793e036323bea2243d052d82aa18f916f598a0b93a592169e"), looks := true }, kinds := [], alts := [], laidByText := true, laidKinds := [.data], laidTests := true, laidLooks := .later }
def FnExactStepsUntilStillCardSaid : Prop := Claim7.holds Tryd.pinned (.plain (OpenSpec.ofChange fnExactStepsUntilStillSpec)) fnExactStepsUntilStillCard

/-- THE SECOND FORM's CARD OF 'laws.FnExactValidOffice'. -/
def fnExactValidOfficeUptoCard : Claim7 := { stood := { row := fnExactValidOfficeUptoRow, standIns := [], harness := (true, "bcf2fdb4ccdaed7793e036323bea2243d052d82aa18f916f598a0b93a592169e"), looks := true }, kinds := [], alts := [], laidByText := true, laidKinds := [.data], laidTests := true, laidLooks := .later }
def FnExactValidOfficeUptoCardSaid : Prop := Claim7.holds Tryd.pinned (.plain (OpenSpec.upto fnExactValidOfficeSpec)) fnExactValidOfficeUptoCard

/-- THE SECOND FORM's CARD OF 'laws.FnExactValidPermits'. -/
def fnExactValidPermitsUptoCard : Claim7 := { stood := { row := fnExactValidPermitsUptoRow, standIns := [], harness := (true, "bcf2fdb4ccdaed7793e036323bea2243d052d82aa18f916f598a0b93a592169e"), looks := true }, kinds := [], alts := [], laidByText := true, laidKinds := [.data], laidTests := true, laidLooks := .later }
def FnExactValidPermitsUptoCardSaid : Prop := Claim7.holds Tryd.pinned (.plain (OpenSpec.upto fnExactValidPermitsSpec)) fnExactValidPermitsUptoCard

/-- THE SECOND FORM's CARD OF 'laws.FnExactLoggedLevels'. -/
def fnExactLoggedLevelsUptoCard : Claim7 := { stood := { row := fnExactLoggedLevelsUptoRow, standIns := [], harness := (true, "bcf2fdb4ccdaed7793e036323bea2243d052d82aa18f916f598a0b93a592169e"), looks := true }, kinds := [], alts := [], laidByText := true, laidKinds := [.data], laidTests := true, laidLooks := .later }
def FnExactLoggedLevelsUptoCardSaid : Prop := Claim7.holds Tryd.pinned (.plain (OpenSpec.upto fnExactLoggedLevelsSpec)) fnExactLoggedLevelsUptoCard

/-- THE SECOND FORM's CARD OF 'laws.FnExactFedCells'. -/
def fnExactFedCellsUptoCard : Claim7 := { stood := { row := fnExactFedCellsUptoRow, standIns := [], harness := (true, "bcf2fdb4ccdaed7793e036323bea2243d052d82aa18f916f598a0b93a592169e"), looks := true }, kinds := [], alts := [], laidByText := true, laidKinds := [.data], laidTests := true, laidLooks := .later }
def FnExactFedCellsUptoCardSaid : Prop := Claim7.holds Tryd.pinned (.plain (OpenSpec.upto fnExactFedCellsSpec)) fnExactFedCellsUptoCard

/-- THE SECOND FORM's CARD OF 'laws.FnExactWaterPath'. -/
def fnExactWaterPathUptoCard : Claim7 := { stood := { row := fnExactWaterPathUptoRow, standIns := [], harness := (true, "bcf2fdb4ccdaed7793e036323bea2243d052d82aa18f916f598a0b93a592169e"), looks := true }, kinds := [], alts := [], laidByText := true, laidKinds := [.data], laidTests := true, laidLooks := .later }
def FnExactWaterPathUptoCardSaid : Prop := Claim7.holds Tryd.pinned (.plain (OpenSpec.upto fnExactWaterPathSpec)) fnExactWaterPathUptoCard

/-- THE SECOND FORM's CARD OF 'laws.FnExactBasinOf'. -/
def fnExactBasinOfUptoCard : Claim7 := { stood := { row := fnExactBasinOfUptoRow, standIns := [], harness := (true, "bcf2fdb4ccdaed7793e036323bea2243d052d82aa18f916f598a0b93a592169e"), looks := true }, kinds := [], alts := [], laidByText := true, laidKinds := [.data], laidTests := true, laidLooks := .later }
def FnExactBasinOfUptoCardSaid : Prop := Claim7.holds Tryd.pinned (.plain (OpenSpec.upto fnExactBasinOfSpec)) fnExactBasinOfUptoCard

/-- THE SECOND FORM's CARD OF 'laws.FnExactSafeStep'. -/
def fnExactSafeStepUptoCard : Claim7 := { stood := { row := fnExactSafeStepUptoRow, standIns := [], harness := (true, "bcf2fdb4ccdaed7793e036323bea2243d052d82aa18f916f598a0b93a592169e"), looks := true }, kinds := [], alts := [], laidByText := true, laidKinds := [.data], laidTests := true, laidLooks := .later }
def FnExactSafeStepUptoCardSaid : Prop := Claim7.holds Tryd.pinned (.plain (OpenSpec.upto fnExactSafeStepSpec)) fnExactSafeStepUptoCard

/-- THE SECOND FORM's CARD OF 'laws.FnExactStepGround'. -/
def fnExactStepGroundUptoCard : Claim7 := { stood := { row := fnExactStepGroundUptoRow, standIns := [], harness := (true, "bcf2fdb4ccdaed7793e036323bea2243d052d82aa18f916f598a0b93a592169e"), looks := true }, kinds := [], alts := [], laidByText := true, laidKinds := [.data], laidTests := true, laidLooks := .later }
def FnExactStepGroundUptoCardSaid : Prop := Claim7.holds Tryd.pinned (.plain (OpenSpec.upto fnExactStepGroundSpec)) fnExactStepGroundUptoCard

/-- THE SECOND FORM's CARD OF 'laws.FnExactStepsOf'. -/
def fnExactStepsOfUptoCard : Claim7 := { stood := { row := fnExactStepsOfUptoRow, standIns := [], harness := (true, "bcf2fdb4ccdaed7793e036323bea2243d052d82aa18f916f598a0b93a592169e"), looks := true }, kinds := [], alts := [], laidByText := true, laidKinds := [.data], laidTests := true, laidLooks := .later }
def FnExactStepsOfUptoCardSaid : Prop := Claim7.holds Tryd.pinned (.plain (OpenSpec.upto fnExactStepsOfSpec)) fnExactStepsOfUptoCard

/-- THE SECOND FORM's CARD OF 'laws.FnExactStepsUntilStill'. -/
def fnExactStepsUntilStillUptoCard : Claim7 := { stood := { row := fnExactStepsUntilStillUptoRow, standIns := [], harness := (true, "bcf2fdb4ccdaed7793e036323bea2243d052d82aa18f916f598a0b93a592169e"), looks := true }, kinds := [], alts := [], laidByText := true, laidKinds := [.data], laidTests := true, laidLooks := .later }
def FnExactStepsUntilStillUptoCardSaid : Prop := Claim7.holds Tryd.pinned (.plain (OpenSpec.upto fnExactStepsUntilStillSpec)) fnExactStepsUntilStillUptoCard
end Rows
end Go.Proofs.YthncidjgpbjdbaaDoor
