/-
  DERIVED. GIVEN WITH THE SEED: THE CARDS: each row of YtnochmlhimddpaaDoorRows.lean that lists a variable, with what it lists TIED to the program's text (the seventh form; the later family's looks); each row that meets fmt, with fmt's text TOLD by the authors' own Lean function (tested against real Go, not proved from fmt's source: count such statements apart). THE CARD IS WHAT COUNTS. Prove the row's statement (the work); the ties are given (YtnochmlhimddpaaDoorTie.lean); close each card by the builder's one call (the guide's Derived/Test/ToyasCard.lean, 'card_holds'). Laid BY PROGRAM, IN A SANDBOX (cutbox-door.mjs). By AI agents, Wed Nov 11 2026. No macro, syntax, notation, axiom, sorry.
-/
import Derived.Test.YtnochmlhimddpaaDoorRows
import GoSem.ClaimSeven
namespace Go.Proofs.YtnochmlhimddpaaDoor
namespace Rows

/-- THE TIED CARD OF 'laws.FnExactIsSmallStep'. -/
def fnExactIsSmallStepCard : Claim7 := { stood := { row := fnExactIsSmallStepRow, standIns := [], harness := (true, "3494be42778f4e126aaf64a231a7618728d627866c6c3bd1bcde250c13d157a3"), looks := true }, kinds := [], alts := [], laidByText := true, laidKinds := [.data], laidTests := true, laidLooks := .later }
def FnExactIsSmallStepCardSaid : Prop := Claim7.holds Tryd.pinned (.plain (OpenSpec.ofChange fnExactIsSmallStepSpec)) fnExactIsSmallStepCard

/-- THE TIED CARD OF 'laws.FnExactDecaySalt'. -/
def fnExactDecaySaltCard : Claim7 := { stood := { row := fnExactDecaySaltRow, standIns := [], harness := (true, "3494be42778f4e126aaf64a231a7618728d627866c6c3bd1bcde250c13d157a3"), looks := true }, kinds := [], alts := [], laidByText := true, laidKinds := [.data], laidTests := true, laidLooks := .later }
def FnExactDecaySaltCardSaid : Prop := Claim7.holds Tryd.pinned (.plain (OpenSpec.ofChange fnExactDecaySaltSpec)) fnExactDecaySaltCard

/-- THE TIED CARD OF 'laws.FnExactMixBrines'. -/
def fnExactMixBrinesCard : Claim7 := { stood := { row := fnExactMixBrinesRow, standIns := [], harness := (true, "3494be42778f4e126aaf64a231a7618728d627866c6c3bd1bcde250c13d157a3"), looks := true }, kinds := [], alts := [], laidByText := true, laidKinds := [.data], laidTests := true, laidLooks := .later }
def FnExactMixBrinesCardSaid : Prop := Claim7.holds Tryd.pinned (.plain (OpenSpec.ofChange fnExactMixBrinesSpec)) fnExactMixBrinesCard

/-- THE TIED CARD OF 'laws.FnExactSafeStep'. -/
def fnExactSafeStepCard : Claim7 := { stood := { row := fnExactSafeStepRow, standIns := [], harness := (true, "3494be42778f4e126aaf64a231a7618728d627866c6c3bd1bcde250c13d157a3"), looks := true }, kinds := [], alts := [], laidByText := true, laidKinds := [.data], laidTests := true, laidLooks := .later }
def FnExactSafeStepCardSaid : Prop := Claim7.holds Tryd.pinned (.plain (OpenSpec.ofChange fnExactSafeStepSpec)) fnExactSafeStepCard

/-- THE TIED CARD OF 'laws.FnExactStepGround'. -/
def fnExactStepGroundCard : Claim7 := { stood := { row := fnExactStepGroundRow, standIns := [], harness := (true, "3494be42778f4e126aaf64a231a7618728d627866c6c3bd1bcde250c13d157a3"), looks := true }, kinds := [], alts := [], laidByText := true, laidKinds := [.data], laidTests := true, laidLooks := .later }
def FnExactStepGroundCardSaid : Prop := Claim7.holds Tryd.pinned (.plain (OpenSpec.ofChange fnExactStepGroundSpec)) fnExactStepGroundCard

/-- THE TIED CARD OF 'laws.FnExactStepsOf'. -/
def fnExactStepsOfCard : Claim7 := { stood := { row := fnExactStepsOfRow, standIns := [], harness := (true, "3494be42778f4e126aaf64a231a7618728d627866c6c3bd1bcde250c13d157a3"), looks := true }, kinds := [], alts := [], laidByText := true, laidKinds := [.data], laidTests := true, laidLooks := .later }
def FnExactStepsOfCardSaid : Prop := Claim7.holds Tryd.pinned (.plain (OpenSpec.ofChange fnExactStepsOfSpec)) fnExactStepsOfCard

/-- THE TIED CARD OF 'laws.FnExactStepsUntilStill'. -/
def fnExactStepsUntilStillCard : Claim7 := { stood := { row := fnExactStepsUntilStillRow, standIns := [], harness := (true, "3494be42778f4e126aaf64a231a7618728d627866c6c3bd1bcde250c13d157a3"), looks := true }, kinds := [], alts := [], laidByText := true, laidKinds := [.data], laidTests := true, laidLooks := .later }
def FnExactStepsUntilStillCardSaid : Prop := Claim7.holds Tryd.pinned (.plain (OpenSpec.ofChange fnExactStepsUntilStillSpec)) fnExactStepsUntilStillCard

/-- THE TIED CARD OF 'laws.FnExactFedCells'. -/
def fnExactFedCellsCard : Claim7 := { stood := { row := fnExactFedCellsRow, standIns := [], harness := (true, "3494be42778f4e126aaf64a231a7618728d627866c6c3bd1bcde250c13d157a3"), looks := true }, kinds := [], alts := [], laidByText := true, laidKinds := [.data], laidTests := true, laidLooks := .later }
def FnExactFedCellsCardSaid : Prop := Claim7.holds Tryd.pinned (.plain (OpenSpec.ofChange fnExactFedCellsSpec)) fnExactFedCellsCard

/-- THE TIED CARD OF 'laws.FnExactWaterPath'. -/
def fnExactWaterPathCard : Claim7 := { stood := { row := fnExactWaterPathRow, standIns := [], harness := (true, "3494be42778f4e126aaf64a231a7618728d627866c6c3bd1bcde250c13d157a3"), looks := true }, kinds := [], alts := [], laidByText := true, laidKinds := [.data], laidTests := true, laidLooks := .later }
def FnExactWaterPathCardSaid : Prop := Claim7.holds Tryd.pinned (.plain (OpenSpec.ofChange fnExactWaterPathSpec)) fnExactWaterPathCard

/-- THE TIED CARD OF 'laws.FnExactBasinOf'. -/
def fnExactBasinOfCard : Claim7 := { stood := { row := fnExactBasinOfRow, standIns := [], harness := (true, "3494be42778f4e126aaf64a231a7618728d627866c6c3bd1bcde250c13d157a3"), looks := true }, kinds := [], alts := [], laidByText := true, laidKinds := [.data], laidTests := true, laidLooks := .later }
def FnExactBasinOfCardSaid : Prop := Claim7.holds Tryd.pinned (.plain (OpenSpec.ofChange fnExactBasinOfSpec)) fnExactBasinOfCard

/-- THE SECOND FORM's CARD OF 'laws.FnExactIsSmallStep'. -/
def fnExactIsSmallStepUptoCard : Claim7 := { stood := { row := fnExactIsSmallStepUptoRow, standIns := [], harness := (true, "3494be42778f4e126aaf64a231a7618728d627866c6c3bd1bcde250c13d157a3"), looks := true }, kinds := [], alts := [], laidByText := true, laidKinds := [.data], laidTests := true, laidLooks := .later }
def FnExactIsSmallStepUptoCardSaid : Prop := Claim7.holds Tryd.pinned (.plain (OpenSpec.upto fnExactIsSmallStepSpec)) fnExactIsSmallStepUptoCard

/-- THE SECOND FORM's CARD OF 'laws.FnExactDecaySalt'. -/
def fnExactDecaySaltUptoCard : Claim7 := { stood := { row := fnExactDecaySaltUptoRow, standIns := [], harness := (true, "3494be42778f4e126aaf64a231a7618728d627866c6c3bd1bcde250c13d157a3"), looks := true }, kinds := [], alts := [], laidByText := true, laidKinds := [.data], laidTests := true, laidLooks := .later }
def FnExactDecaySaltUptoCardSaid : Prop := Claim7.holds Tryd.pinned (.plain (OpenSpec.upto fnExactDecaySaltSpec)) fnExactDecaySaltUptoCard

/-- THE SECOND FORM's CARD OF 'laws.FnExactMixBrines'. -/
def fnExactMixBrinesUptoCard : Claim7 := { stood := { row := fnExactMixBrinesUptoRow, standIns := [], harness := (true, "3494be42778f4e126aaf64a231a7618728d627866c6c3bd1bcde250c13d157a3"), looks := true }, kinds := [], alts := [], laidByText := true, laidKinds := [.data], laidTests := true, laidLooks := .later }
def FnExactMixBrinesUptoCardSaid : Prop := Claim7.holds Tryd.pinned (.plain (OpenSpec.upto fnExactMixBrinesSpec)) fnExactMixBrinesUptoCard

/-- THE SECOND FORM's CARD OF 'laws.FnExactSafeStep'. -/
def fnExactSafeStepUptoCard : Claim7 := { stood := { row := fnExactSafeStepUptoRow, standIns := [], harness := (true, "3494be42778f4e126aaf64a231a7618728d627866c6c3bd1bcde250c13d157a3"), looks := true }, kinds := [], alts := [], laidByText := true, laidKinds := [.data], laidTests := true, laidLooks := .later }
def FnExactSafeStepUptoCardSaid : Prop := Claim7.holds Tryd.pinned (.plain (OpenSpec.upto fnExactSafeStepSpec)) fnExactSafeStepUptoCard

/-- THE SECOND FORM's CARD OF 'laws.FnExactStepGround'. -/
def fnExactStepGroundUptoCard : Claim7 := { stood := { row := fnExactStepGroundUptoRow, standIns := [], harness := (true, "3494be42778f4e126aaf64a231a7618728d627866c6c3bd1bcde250c13d157a3"), looks := true }, kinds := [], alts := [], laidByText := true, laidKinds := [.data], laidTests := true, laidLooks := .later }
def FnExactStepGroundUptoCardSaid : Prop := Claim7.holds Tryd.pinned (.plain (OpenSpec.upto fnExactStepGroundSpec)) fnExactStepGroundUptoCard

/-- THE SECOND FORM's CARD OF 'laws.FnExactStepsOf'. -/
def fnExactStepsOfUptoCard : Claim7 := { stood := { row := fnExactStepsOfUptoRow, standIns := [], harness := (true, "3494be42778f4e126aaf64a231a7618728d627866c6c3bd1bcde250c13d157a3"), looks := true }, kinds := [], alts := [], laidByText := true, laidKinds := [.data], laidTests := true, laidLooks := .later }
def FnExactStepsOfUptoCardSaid : Prop := Claim7.holds Tryd.pinned (.plain (OpenSpec.upto fnExactStepsOfSpec)) fnExactStepsOfUptoCard

/-- THE SECOND FORM's CARD OF 'laws.FnExactStepsUntilStill'. -/
def fnExactStepsUntilStillUptoCard : Claim7 := { stood := { row := fnExactStepsUntilStillUptoRow, standIns := [], harness := (true, "3494be42778f4e126aaf64a231a7618728d627866c6c3bd1bcde250c13d157a3"), looks := true }, kinds := [], alts := [], laidByText := true, laidKinds := [.data], laidTests := true, laidLooks := .later }
def FnExactStepsUntilStillUptoCardSaid : Prop := Claim7.holds Tryd.pinned (.plain (OpenSpec.upto fnExactStepsUntilStillSpec)) fnExactStepsUntilStillUptoCard

/-- THE SECOND FORM's CARD OF 'laws.FnExactFedCells'. -/
def fnExactFedCellsUptoCard : Claim7 := { stood := { row := fnExactFedCellsUptoRow, standIns := [], harness := (true, "3494be42778f4e126aaf64a231a7618728d627866c6c3bd1bcde250c13d157a3"), looks := true }, kinds := [], alts := [], laidByText := true, laidKinds := [.data], laidTests := true, laidLooks := .later }
def FnExactFedCellsUptoCardSaid : Prop := Claim7.holds Tryd.pinned (.plain (OpenSpec.upto fnExactFedCellsSpec)) fnExactFedCellsUptoCard

/-- THE SECOND FORM's CARD OF 'laws.FnExactWaterPath'. -/
def fnExactWaterPathUptoCard : Claim7 := { stood := { row := fnExactWaterPathUptoRow, standIns := [], harness := (true, "3494be42778f4e126aaf64a231a7618728d627866c6c3bd1bcde250c13d157a3"), looks := true }, kinds := [], alts := [], laidByText := true, laidKinds := [.data], laidTests := true, laidLooks := .later }
def FnExactWaterPathUptoCardSaid : Prop := Claim7.holds Tryd.pinned (.plain (OpenSpec.upto fnExactWaterPathSpec)) fnExactWaterPathUptoCard

/-- THE SECOND FORM's CARD OF 'laws.FnExactBasinOf'. -/
def fnExactBasinOfUptoCard : Claim7 := { stood := { row := fnExactBasinOfUptoRow, standIns := [], harness := (true, "3494be42778f4e126aaf64a231a7618728d627866c6c3bd1bcde250c13d157a3"), looks := true }, kinds := [], alts := [], laidByText := true, laidKinds := [.data], laidTests := true, laidLooks := .later }
def FnExactBasinOfUptoCardSaid : Prop := Claim7.holds Tryd.pinned (.plain (OpenSpec.upto fnExactBasinOfSpec)) fnExactBasinOfUptoCard
end Rows
end Go.Proofs.YtnochmlhimddpaaDoor
