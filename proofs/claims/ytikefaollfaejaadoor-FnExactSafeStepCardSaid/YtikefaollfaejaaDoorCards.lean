/-
  DERIVED. GIVEN WITH THE SEED: THE CARDS: each row of YtikefaollfaejaaDoorRows.lean that lists a variable, with what it lists TIED to the program's text (the seventh form; the later family's looks); each row that meets fmt, with fmt's text TOLD by the authors' own Lean function (tested against real Go, not proved from fmt's source: count such statements apart). THE CARD IS WHAT COUNTS. Prove the row's statement (the work); the ties are given (YtikefaollfaejaaDoorTie.lean); close each card by the builder's one call (the guide's Derived/Test/ToyasCard.lean, 'card_holds'). Laid BY PROGRAM, IN A SANDBOX (cutbox-door.mjs). By AI agents, Wed Nov 11 2026. No macro, syntax, notation, axiom, sorry.
-/
import Derived.Test.YtikefaollfaejaaDoorRows
import GoSem.ClaimSeven
namespace Go.Proofs.YtikefaollfaejaaDoor
namespace Rows

/-- THE TIED CARD OF 'laws.FnExactSafeStep'. -/
def fnExactSafeStepCard : Claim7 := { stood := { row := fnExactSafeStepRow, standIns := [], harness := (true, "5caf28b20232eb154b524f0baae8cdb0db551fc5e36b287083ca8d5d66226235"), looks := false }, kinds := [], alts := [], laidByText := true, laidKinds := [.data], laidTests := true, laidLooks := .later }
def FnExactSafeStepCardSaid : Prop := Claim7.holds Tryd.pinned (.plain (OpenSpec.ofChange fnExactSafeStepSpec)) fnExactSafeStepCard

/-- THE SECOND FORM's CARD OF 'laws.FnExactSafeStep'. -/
def fnExactSafeStepUptoCard : Claim7 := { stood := { row := fnExactSafeStepUptoRow, standIns := [], harness := (true, "5caf28b20232eb154b524f0baae8cdb0db551fc5e36b287083ca8d5d66226235"), looks := false }, kinds := [], alts := [], laidByText := true, laidKinds := [.data], laidTests := true, laidLooks := .later }
def FnExactSafeStepUptoCardSaid : Prop := Claim7.holds Tryd.pinned (.plain (OpenSpec.upto fnExactSafeStepSpec)) fnExactSafeStepUptoCard
end Rows
end Go.Proofs.YtikefaollfaejaaDoor
