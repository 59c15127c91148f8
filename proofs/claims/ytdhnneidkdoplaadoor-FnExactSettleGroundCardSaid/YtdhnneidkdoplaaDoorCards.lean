/-
  DERIVED. GIVEN WITH THE SEED: THE CARDS: each row of YtdhnneidkdoplaaDoorRows.lean that lists a variable, with what it lists TIED to the program's text (the seventh form; the later family's looks); each row that meets fmt, with fmt's text TOLD by the authors' own Lean function (tested against real Go, not proved from fmt's source: count such statements apart). THE CARD IS WHAT COUNTS. Prove the row's statement (the work); the ties are given (YtdhnneidkdoplaaDoorTie.lean); close each card by the builder's one call (the guide's Derived/Test/ToyasCard.lean, 'card_holds'). Laid BY PROGRAM, IN A SANDBOX (cutbox-door.mjs). By AI agents, Wed Nov 11 2026. No macro, syntax, notation, axiom, sorry.
-/
import Derived.Test.YtdhnneidkdoplaaDoorRows
import GoSem.ClaimSeven
namespace Go.Proofs.YtdhnneidkdoplaaDoor
namespace Rows

/-- THE TIED CARD OF 'laws.FnExactWorstBalance'. -/
def fnExactWorstBalanceCard : Claim7 := { stood := { row := fnExactWorstBalanceRow, standIns := [], harness := (true, "49267cae4e833509c3740b06d6c025100084d2f7e580534b602d2d7567c5646e"), looks := true }, kinds := [], alts := [], laidByText := true, laidKinds := [.data], laidTests := true, laidLooks := .later }
def FnExactWorstBalanceCardSaid : Prop := Claim7.holds Tryd.pinned (.plain (OpenSpec.ofChange fnExactWorstBalanceSpec)) fnExactWorstBalanceCard

/-- THE TIED CARD OF 'laws.FnExactSettledHead'. -/
def fnExactSettledHeadCard : Claim7 := { stood := { row := fnExactSettledHeadRow, standIns := [], harness := (true, "49267cae4e833509c3740b06d6c025100084d2f7e580534b602d2d7567c5646e"), looks := true }, kinds := [], alts := [], laidByText := true, laidKinds := [.data], laidTests := true, laidLooks := .later }
def FnExactSettledHeadCardSaid : Prop := Claim7.holds Tryd.pinned (.plain (OpenSpec.ofChange fnExactSettledHeadSpec)) fnExactSettledHeadCard

/-- THE TIED CARD OF 'laws.FnExactLeakOf'. -/
def fnExactLeakOfCard : Claim7 := { stood := { row := fnExactLeakOfRow, standIns := [], harness := (true, "49267cae4e833509c3740b06d6c025100084d2f7e580534b602d2d7567c5646e"), looks := true }, kinds := [], alts := [], laidByText := true, laidKinds := [.data], laidTests := true, laidLooks := .later }
def FnExactLeakOfCardSaid : Prop := Claim7.holds Tryd.pinned (.plain (OpenSpec.ofChange fnExactLeakOfSpec)) fnExactLeakOfCard

/-- THE TIED CARD OF 'laws.FnExactWarmUp'. -/
def fnExactWarmUpCard : Claim7 := { stood := { row := fnExactWarmUpRow, standIns := [], harness := (true, "49267cae4e833509c3740b06d6c025100084d2f7e580534b602d2d7567c5646e"), looks := true }, kinds := [], alts := [], laidByText := true, laidKinds := [.data], laidTests := true, laidLooks := .later }
def FnExactWarmUpCardSaid : Prop := Claim7.holds Tryd.pinned (.plain (OpenSpec.ofChange fnExactWarmUpSpec)) fnExactWarmUpCard

/-- THE TIED CARD OF 'laws.FnExactChangesBetween'. -/
def fnExactChangesBetweenCard : Claim7 := { stood := { row := fnExactChangesBetweenRow, standIns := [], harness := (true, "49267cae4e833509c3740b06d6c025100084d2f7e580534b602d2d7567c5646e"), looks := true }, kinds := [], alts := [], laidByText := true, laidKinds := [.data], laidTests := true, laidLooks := .later }
def FnExactChangesBetweenCardSaid : Prop := Claim7.holds Tryd.pinned (.plain (OpenSpec.ofChange fnExactChangesBetweenSpec)) fnExactChangesBetweenCard

/-- THE TIED CARD OF 'laws.FnExactGreatestChange'. -/
def fnExactGreatestChangeCard : Claim7 := { stood := { row := fnExactGreatestChangeRow, standIns := [], harness := (true, "49267cae4e833509c3740b06d6c025100084d2f7e580534b602d2d7567c5646e"), looks := true }, kinds := [], alts := [], laidByText := true, laidKinds := [.data], laidTests := true, laidLooks := .later }
def FnExactGreatestChangeCardSaid : Prop := Claim7.holds Tryd.pinned (.plain (OpenSpec.ofChange fnExactGreatestChangeSpec)) fnExactGreatestChangeCard

/-- THE TIED CARD OF 'laws.FnExactIsStill'. -/
def fnExactIsStillCard : Claim7 := { stood := { row := fnExactIsStillRow, standIns := [], harness := (true, "49267cae4e833509c3740b06d6c025100084d2f7e580534b602d2d7567c5646e"), looks := true }, kinds := [], alts := [], laidByText := true, laidKinds := [.data], laidTests := true, laidLooks := .later }
def FnExactIsStillCardSaid : Prop := Claim7.holds Tryd.pinned (.plain (OpenSpec.ofChange fnExactIsStillSpec)) fnExactIsStillCard

/-- THE TIED CARD OF 'laws.FnExactStepAtOnce'. -/
def fnExactStepAtOnceCard : Claim7 := { stood := { row := fnExactStepAtOnceRow, standIns := [], harness := (true, "49267cae4e833509c3740b06d6c025100084d2f7e580534b602d2d7567c5646e"), looks := true }, kinds := [], alts := [], laidByText := true, laidKinds := [.data], laidTests := true, laidLooks := .later }
def FnExactStepAtOnceCardSaid : Prop := Claim7.holds Tryd.pinned (.plain (OpenSpec.ofChange fnExactStepAtOnceSpec)) fnExactStepAtOnceCard

/-- THE TIED CARD OF 'laws.FnExactSweepInOrder'. -/
def fnExactSweepInOrderCard : Claim7 := { stood := { row := fnExactSweepInOrderRow, standIns := [], harness := (true, "49267cae4e833509c3740b06d6c025100084d2f7e580534b602d2d7567c5646e"), looks := true }, kinds := [], alts := [], laidByText := true, laidKinds := [.data], laidTests := true, laidLooks := .later }
def FnExactSweepInOrderCardSaid : Prop := Claim7.holds Tryd.pinned (.plain (OpenSpec.ofChange fnExactSweepInOrderSpec)) fnExactSweepInOrderCard

/-- THE TIED CARD OF 'laws.FnExactSweepColour'. -/
def fnExactSweepColourCard : Claim7 := { stood := { row := fnExactSweepColourRow, standIns := [], harness := (true, "49267cae4e833509c3740b06d6c025100084d2f7e580534b602d2d7567c5646e"), looks := true }, kinds := [], alts := [], laidByText := true, laidKinds := [.data], laidTests := true, laidLooks := .later }
def FnExactSweepColourCardSaid : Prop := Claim7.holds Tryd.pinned (.plain (OpenSpec.ofChange fnExactSweepColourSpec)) fnExactSweepColourCard

/-- THE TIED CARD OF 'laws.FnExactSweepBoth'. -/
def fnExactSweepBothCard : Claim7 := { stood := { row := fnExactSweepBothRow, standIns := [], harness := (true, "49267cae4e833509c3740b06d6c025100084d2f7e580534b602d2d7567c5646e"), looks := true }, kinds := [], alts := [], laidByText := true, laidKinds := [.data], laidTests := true, laidLooks := .later }
def FnExactSweepBothCardSaid : Prop := Claim7.holds Tryd.pinned (.plain (OpenSpec.ofChange fnExactSweepBothSpec)) fnExactSweepBothCard

/-- THE TIED CARD OF 'laws.FnExactRelaxedSweep'. -/
def fnExactRelaxedSweepCard : Claim7 := { stood := { row := fnExactRelaxedSweepRow, standIns := [], harness := (true, "49267cae4e833509c3740b06d6c025100084d2f7e580534b602d2d7567c5646e"), looks := true }, kinds := [], alts := [], laidByText := true, laidKinds := [.data], laidTests := true, laidLooks := .later }
def FnExactRelaxedSweepCardSaid : Prop := Claim7.holds Tryd.pinned (.plain (OpenSpec.ofChange fnExactRelaxedSweepSpec)) fnExactRelaxedSweepCard

/-- THE TIED CARD OF 'laws.FnExactSettleGround'. -/
def fnExactSettleGroundCard : Claim7 := { stood := { row := fnExactSettleGroundRow, standIns := [], harness := (true, "49267cae4e833509c3740b06d6c025100084d2f7e580534b602d2d7567c5646e"), looks := true }, kinds := [], alts := [], laidByText := true, laidKinds := [.data], laidTests := true, laidLooks := .later }
def FnExactSettleGroundCardSaid : Prop := Claim7.holds Tryd.pinned (.plain (OpenSpec.ofChange fnExactSettleGroundSpec)) fnExactSettleGroundCard

/-- THE TIED CARD OF 'laws.FnExactPumpAt'. -/
def fnExactPumpAtCard : Claim7 := { stood := { row := fnExactPumpAtRow, standIns := [], harness := (true, "49267cae4e833509c3740b06d6c025100084d2f7e580534b602d2d7567c5646e"), looks := true }, kinds := [], alts := [], laidByText := true, laidKinds := [.data], laidTests := true, laidLooks := .later }
def FnExactPumpAtCardSaid : Prop := Claim7.holds Tryd.pinned (.plain (OpenSpec.ofChange fnExactPumpAtSpec)) fnExactPumpAtCard

/-- THE SECOND FORM's CARD OF 'laws.FnExactWorstBalance'. -/
def fnExactWorstBalanceUptoCard : Claim7 := { stood := { row := fnExactWorstBalanceUptoRow, standIns := [], harness := (true, "49267cae4e833509c3740b06d6c025100084d2f7e580534b602d2d7567c5646e"), looks := true }, kinds := [], alts := [], laidByText := true, laidKinds := [.data], laidTests := true, laidLooks := .later }
def FnExactWorstBalanceUptoCardSaid : Prop := Claim7.holds Tryd.pinned (.plain (OpenSpec.upto fnExactWorstBalanceSpec)) fnExactWorstBalanceUptoCard

/-- THE SECOND FORM's CARD OF 'laws.FnExactSettledHead'. -/
def fnExactSettledHeadUptoCard : Claim7 := { stood := { row := fnExactSettledHeadUptoRow, standIns := [], harness := (true, "49267cae4e833509c3740b06d6c025100084d2f7e580534b602d2d7567c5646e"), looks := true }, kinds := [], alts := [], laidByText := true, laidKinds := [.data], laidTests := true, laidLooks := .later }
def FnExactSettledHeadUptoCardSaid : Prop := Claim7.holds Tryd.pinned (.plain (OpenSpec.upto fnExactSettledHeadSpec)) fnExactSettledHeadUptoCard

/-- THE SECOND FORM's CARD OF 'laws.FnExactLeakOf'. -/
def fnExactLeakOfUptoCard : Claim7 := { stood := { row := fnExactLeakOfUptoRow, standIns := [], harness := (true, "49267cae4e833509c3740b06d6c025100084d2f7e580534b602d2d7567c5646e"), looks := true }, kinds := [], alts := [], laidByText := true, laidKinds := [.data], laidTests := true, laidLooks := .later }
def FnExactLeakOfUptoCardSaid : Prop := Claim7.holds Tryd.pinned (.plain (OpenSpec.upto fnExactLeakOfSpec)) fnExactLeakOfUptoCard

/-- THE SECOND FORM's CARD OF 'laws.FnExactWarmUp'. -/
def fnExactWarmUpUptoCard : Claim7 := { stood := { row := fnExactWarmUpUptoRow, standIns := [], harness := (true, "49267cae4e833509c3740b06d6c025100084d2f7e580534b602d2d7567c5646e"), looks := true }, kinds := [], alts := [], laidByText := true, laidKinds := [.data], laidTests := true, laidLooks := .later }
def FnExactWarmUpUptoCardSaid : Prop := Claim7.holds Tryd.pinned (.plain (OpenSpec.upto fnExactWarmUpSpec)) fnExactWarmUpUptoCard

/-- THE SECOND FORM's CARD OF 'laws.FnExactChangesBetween'. -/
def fnExactChangesBetweenUptoCard : Claim7 := { stood := { row := fnExactChangesBetweenUptoRow, standIns := [], harness := (true, "49267cae4e833509c3740b06d6c025100084d2f7e580534b602d2d7567c5646e"), looks := true }, kinds := [], alts := [], laidByText := true, laidKinds := [.data], laidTests := true, laidLooks := .later }
def FnExactChangesBetweenUptoCardSaid : Prop := Claim7.holds Tryd.pinned (.plain (OpenSpec.upto fnExactChangesBetweenSpec)) fnExactChangesBetweenUptoCard

/-- THE SECOND FORM's CARD OF 'laws.FnExactGreatestChange'. -/
def fnExactGreatestChangeUptoCard : Claim7 := { stood := { row := fnExactGreatestChangeUptoRow, standIns := [], harness := (true, "49267cae4e833509c3740b06d6c025100084d2f7e580534b602d2d7567c5646e"), looks := true }, kinds := [], alts := [], laidByText := true, laidKinds := [.data], laidTests := true, laidLooks := .later }
def FnExactGreatestChangeUptoCardSaid : Prop := Claim7.holds Tryd.pinned (.plain (OpenSpec.upto fnExactGreatestChangeSpec)) fnExactGreatestChangeUptoCard

/-- THE SECOND FORM's CARD OF 'laws.FnExactIsStill'. -/
def fnExactIsStillUptoCard : Claim7 := { stood := { row := fnExactIsStillUptoRow, standIns := [], harness := (true, "49267cae4e833509c3740b06d6c025100084d2f7e580534b602d2d7567c5646e"), looks := true }, kinds := [], alts := [], laidByText := true, laidKinds := [.data], laidTests := true, laidLooks := .later }
def FnExactIsStillUptoCardSaid : Prop := Claim7.holds Tryd.pinned (.plain (OpenSpec.upto fnExactIsStillSpec)) fnExactIsStillUptoCard

/-- THE SECOND FORM's CARD OF 'laws.FnExactStepAtOnce'. -/
def fnExactStepAtOnceUptoCard : Claim7 := { stood := { row := fnExactStepAtOnceUptoRow, standIns := [], harness := (true, "49267cae4e833509c3740b06d6c025100084d2f7e580534b602d2d7567c5646e"), looks := true }, kinds := [], alts := [], laidByText := true, laidKinds := [.data], laidTests := true, laidLooks := .later }
def FnExactStepAtOnceUptoCardSaid : Prop := Claim7.holds Tryd.pinned (.plain (OpenSpec.upto fnExactStepAtOnceSpec)) fnExactStepAtOnceUptoCard

/-- THE SECOND FORM's CARD OF 'laws.FnExactSweepInOrder'. -/
def fnExactSweepInOrderUptoCard : Claim7 := { stood := { row := fnExactSweepInOrderUptoRow, standIns := [], harness := (true, "49267cae4e833509c3740b06d6c025100084d2f7e580534b602d2d7567c5646e"), looks := true }, kinds := [], alts := [], laidByText := true, laidKinds := [.data], laidTests := true, laidLooks := .later }
def FnExactSweepInOrderUptoCardSaid : Prop := Claim7.holds Tryd.pinned (.plain (OpenSpec.upto fnExactSweepInOrderSpec)) fnExactSweepInOrderUptoCard

/-- THE SECOND FORM's CARD OF 'laws.FnExactSweepColour'. -/
def fnExactSweepColourUptoCard : Claim7 := { stood := { row := fnExactSweepColourUptoRow, standIns := [], harness := (true, "49267cae4e833509c3740b06d6c025100084d2f7e580534b602d2d7567c5646e"), looks := true }, kinds := [], alts := [], laidByText := true, laidKinds := [.data], laidTests := true, laidLooks := .later }
def FnExactSweepColourUptoCardSaid : Prop := Claim7.holds Tryd.pinned (.plain (OpenSpec.upto fnExactSweepColourSpec)) fnExactSweepColourUptoCard

/-- THE SECOND FORM's CARD OF 'laws.FnExactSweepBoth'. -/
def fnExactSweepBothUptoCard : Claim7 := { stood := { row := fnExactSweepBothUptoRow, standIns := [], harness := (true, "49267cae4e833509c3740b06d6c025100084d2f7e580534b602d2d7567c5646e"), looks := true }, kinds := [], alts := [], laidByText := true, laidKinds := [.data], laidTests := true, laidLooks := .later }
def FnExactSweepBothUptoCardSaid : Prop := Claim7.holds Tryd.pinned (.plain (OpenSpec.upto fnExactSweepBothSpec)) fnExactSweepBothUptoCard

/-- THE SECOND FORM's CARD OF 'laws.FnExactRelaxedSweep'. -/
def fnExactRelaxedSweepUptoCard : Claim7 := { stood := { row := fnExactRelaxedSweepUptoRow, standIns := [], harness := (true, "49267cae4e833509c3740b06d6c025100084d2f7e580534b602d2d7567c5646e"), looks := true }, kinds := [], alts := [], laidByText := true, laidKinds := [.data], laidTests := true, laidLooks := .later }
def FnExactRelaxedSweepUptoCardSaid : Prop := Claim7.holds Tryd.pinned (.plain (OpenSpec.upto fnExactRelaxedSweepSpec)) fnExactRelaxedSweepUptoCard

/-- THE SECOND FORM's CARD OF 'laws.FnExactSettleGround'. -/
def fnExactSettleGroundUptoCard : Claim7 := { stood := { row := fnExactSettleGroundUptoRow, standIns := [], harness := (true, "49267cae4e833509c3740b06d6c025100084d2f7e580534b602d2d7567c5646e"), looks := true }, kinds := [], alts := [], laidByText := true, laidKinds := [.data], laidTests := true, laidLooks := .later }
def FnExactSettleGroundUptoCardSaid : Prop := Claim7.holds Tryd.pinned (.plain (OpenSpec.upto fnExactSettleGroundSpec)) fnExactSettleGroundUptoCard

/-- THE SECOND FORM's CARD OF 'laws.FnExactPumpAt'. -/
def fnExactPumpAtUptoCard : Claim7 := { stood := { row := fnExactPumpAtUptoRow, standIns := [], harness := (true, "49267cae4e833509c3740b06d6c025100084d2f7e580534b602d2d7567c5646e"), looks := true }, kinds := [], alts := [], laidByText := true, laidKinds := [.data], laidTests := true, laidLooks := .later }
def FnExactPumpAtUptoCardSaid : Prop := Claim7.holds Tryd.pinned (.plain (OpenSpec.upto fnExactPumpAtSpec)) fnExactPumpAtUptoCard
end Rows
end Go.Proofs.YtdhnneidkdoplaaDoor
