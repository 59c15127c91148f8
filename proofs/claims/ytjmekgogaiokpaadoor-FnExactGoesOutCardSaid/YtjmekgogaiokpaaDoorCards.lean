/-
  DERIVED. GIVEN WITH THE SEED: THE CARDS: each row of YtjmekgogaiokpaaDoorRows.lean that lists a variable, with what it lists TIED to the program's text (the seventh form; the later family's looks); each row that meets fmt, with fmt's text TOLD by the authors' own Lean function (tested against real Go, not proved from fmt's source: count such statements apart). THE CARD IS WHAT COUNTS. Prove the row's statement (the work); the ties are given (YtjmekgogaiokpaaDoorTie.lean); close each card by the builder's one call (the guide's Derived/Test/ToyasCard.lean, 'card_holds'). Laid BY PROGRAM, IN A SANDBOX (cutbox-door.mjs). By AI agents, Wed Nov 11 2026. No macro, syntax, notation, axiom, sorry.
-/
import Derived.Test.YtjmekgogaiokpaaDoorRows
import GoSem.ClaimSeven
namespace Go.Proofs.YtjmekgogaiokpaaDoor
namespace Rows

/-- THE TIED CARD OF 'laws.FnExactValidGround'. -/
def fnExactValidGroundCard : Claim7 := { stood := { row := fnExactValidGroundRow, standIns := [], harness := (true, "b7d6dcc2aa7cdef86f383b8082d56a87f612221325217d8a5dd6fc03a61f3ad2"), looks := false }, kinds := [], alts := [], laidByText := true, laidKinds := [.data], laidTests := true, laidLooks := .later }
def FnExactValidGroundCardSaid : Prop := Claim7.holds Tryd.pinned (.plain (OpenSpec.ofChange fnExactValidGroundSpec)) fnExactValidGroundCard

/-- THE TIED CARD OF 'laws.FnExactEvenGround'. -/
def fnExactEvenGroundCard : Claim7 := { stood := { row := fnExactEvenGroundRow, standIns := [], harness := (true, "b7d6dcc2aa7cdef86f383b8082d56a87f612221325217d8a5dd6fc03a61f3ad2"), looks := false }, kinds := [], alts := [], laidByText := true, laidKinds := [.data], laidTests := true, laidLooks := .later }
def FnExactEvenGroundCardSaid : Prop := Claim7.holds Tryd.pinned (.plain (OpenSpec.ofChange fnExactEvenGroundSpec)) fnExactEvenGroundCard

/-- THE TIED CARD OF 'laws.FnExactValidBrine'. -/
def fnExactValidBrineCard : Claim7 := { stood := { row := fnExactValidBrineRow, standIns := [], harness := (true, "b7d6dcc2aa7cdef86f383b8082d56a87f612221325217d8a5dd6fc03a61f3ad2"), looks := false }, kinds := [], alts := [], laidByText := true, laidKinds := [.data], laidTests := true, laidLooks := .later }
def FnExactValidBrineCardSaid : Prop := Claim7.holds Tryd.pinned (.plain (OpenSpec.ofChange fnExactValidBrineSpec)) fnExactValidBrineCard

/-- THE TIED CARD OF 'laws.FnExactGoesOut'. -/
def fnExactGoesOutCard : Claim7 := { stood := { row := fnExactGoesOutRow, standIns := [], harness := (true, "b7d6dcc2aa7cdef86f383b8082d56a87f612221325217d8a5dd6fc03a61f3ad2"), looks := false }, kinds := [], alts := [], laidByText := true, laidKinds := [.data], laidTests := true, laidLooks := .later }
def FnExactGoesOutCardSaid : Prop := Claim7.holds Tryd.pinned (.plain (OpenSpec.ofChange fnExactGoesOutSpec)) fnExactGoesOutCard

/-- THE TIED CARD OF 'laws.FnExactComesIn'. -/
def fnExactComesInCard : Claim7 := { stood := { row := fnExactComesInRow, standIns := [], harness := (true, "b7d6dcc2aa7cdef86f383b8082d56a87f612221325217d8a5dd6fc03a61f3ad2"), looks := false }, kinds := [], alts := [], laidByText := true, laidKinds := [.data], laidTests := true, laidLooks := .later }
def FnExactComesInCardSaid : Prop := Claim7.holds Tryd.pinned (.plain (OpenSpec.ofChange fnExactComesInSpec)) fnExactComesInCard

/-- THE TIED CARD OF 'laws.FnExactSafeStep'. -/
def fnExactSafeStepCard : Claim7 := { stood := { row := fnExactSafeStepRow, standIns := [], harness := (true, "b7d6dcc2aa7cdef86f383b8082d56a87f612221325217d8a5dd6fc03a61f3ad2"), looks := false }, kinds := [], alts := [], laidByText := true, laidKinds := [.data], laidTests := true, laidLooks := .later }
def FnExactSafeStepCardSaid : Prop := Claim7.holds Tryd.pinned (.plain (OpenSpec.ofChange fnExactSafeStepSpec)) fnExactSafeStepCard

/-- THE TIED CARD OF 'laws.FnExactIsSmallStep'. -/
def fnExactIsSmallStepCard : Claim7 := { stood := { row := fnExactIsSmallStepRow, standIns := [], harness := (true, "b7d6dcc2aa7cdef86f383b8082d56a87f612221325217d8a5dd6fc03a61f3ad2"), looks := false }, kinds := [], alts := [], laidByText := true, laidKinds := [.data], laidTests := true, laidLooks := .later }
def FnExactIsSmallStepCardSaid : Prop := Claim7.holds Tryd.pinned (.plain (OpenSpec.ofChange fnExactIsSmallStepSpec)) fnExactIsSmallStepCard

/-- THE TIED CARD OF 'laws.FnExactSaltIn'. -/
def fnExactSaltInCard : Claim7 := { stood := { row := fnExactSaltInRow, standIns := [], harness := (true, "b7d6dcc2aa7cdef86f383b8082d56a87f612221325217d8a5dd6fc03a61f3ad2"), looks := false }, kinds := [], alts := [], laidByText := true, laidKinds := [.data], laidTests := true, laidLooks := .later }
def FnExactSaltInCardSaid : Prop := Claim7.holds Tryd.pinned (.plain (OpenSpec.ofChange fnExactSaltInSpec)) fnExactSaltInCard

/-- THE TIED CARD OF 'laws.FnExactFrontOf'. -/
def fnExactFrontOfCard : Claim7 := { stood := { row := fnExactFrontOfRow, standIns := [], harness := (true, "b7d6dcc2aa7cdef86f383b8082d56a87f612221325217d8a5dd6fc03a61f3ad2"), looks := false }, kinds := [], alts := [], laidByText := true, laidKinds := [.data], laidTests := true, laidLooks := .later }
def FnExactFrontOfCardSaid : Prop := Claim7.holds Tryd.pinned (.plain (OpenSpec.ofChange fnExactFrontOfSpec)) fnExactFrontOfCard

/-- THE TIED CARD OF 'laws.FnExactDecaySalt'. -/
def fnExactDecaySaltCard : Claim7 := { stood := { row := fnExactDecaySaltRow, standIns := [], harness := (true, "b7d6dcc2aa7cdef86f383b8082d56a87f612221325217d8a5dd6fc03a61f3ad2"), looks := false }, kinds := [], alts := [], laidByText := true, laidKinds := [.data], laidTests := true, laidLooks := .later }
def FnExactDecaySaltCardSaid : Prop := Claim7.holds Tryd.pinned (.plain (OpenSpec.ofChange fnExactDecaySaltSpec)) fnExactDecaySaltCard

/-- THE TIED CARD OF 'laws.FnExactSaltiestCell'. -/
def fnExactSaltiestCellCard : Claim7 := { stood := { row := fnExactSaltiestCellRow, standIns := [], harness := (true, "b7d6dcc2aa7cdef86f383b8082d56a87f612221325217d8a5dd6fc03a61f3ad2"), looks := false }, kinds := [], alts := [], laidByText := true, laidKinds := [.data], laidTests := true, laidLooks := .later }
def FnExactSaltiestCellCardSaid : Prop := Claim7.holds Tryd.pinned (.plain (OpenSpec.ofChange fnExactSaltiestCellSpec)) fnExactSaltiestCellCard

/-- THE TIED CARD OF 'laws.FnExactReverseBrine'. -/
def fnExactReverseBrineCard : Claim7 := { stood := { row := fnExactReverseBrineRow, standIns := [], harness := (true, "b7d6dcc2aa7cdef86f383b8082d56a87f612221325217d8a5dd6fc03a61f3ad2"), looks := false }, kinds := [], alts := [], laidByText := true, laidKinds := [.data], laidTests := true, laidLooks := .later }
def FnExactReverseBrineCardSaid : Prop := Claim7.holds Tryd.pinned (.plain (OpenSpec.ofChange fnExactReverseBrineSpec)) fnExactReverseBrineCard

/-- THE TIED CARD OF 'laws.FnExactMixBrines'. -/
def fnExactMixBrinesCard : Claim7 := { stood := { row := fnExactMixBrinesRow, standIns := [], harness := (true, "b7d6dcc2aa7cdef86f383b8082d56a87f612221325217d8a5dd6fc03a61f3ad2"), looks := false }, kinds := [], alts := [], laidByText := true, laidKinds := [.data], laidTests := true, laidLooks := .later }
def FnExactMixBrinesCardSaid : Prop := Claim7.holds Tryd.pinned (.plain (OpenSpec.ofChange fnExactMixBrinesSpec)) fnExactMixBrinesCard

/-- THE SECOND FORM's CARD OF 'laws.FnExactValidGround'. -/
def fnExactValidGroundUptoCard : Claim7 := { stood := { row := fnExactValidGroundUptoRow, standIns := [], harness := (true, "b7d6dcc2aa7cdef86f383b8082d56a87f612221325217d8a5dd6fc03a61f3ad2"), looks := false }, kinds := [], alts := [], laidByText := true, laidKinds := [.data], laidTests := true, laidLooks := .later }
def FnExactValidGroundUptoCardSaid : Prop := Claim7.holds Tryd.pinned (.plain (OpenSpec.upto fnExactValidGroundSpec)) fnExactValidGroundUptoCard

/-- THE SECOND FORM's CARD OF 'laws.FnExactEvenGround'. -/
def fnExactEvenGroundUptoCard : Claim7 := { stood := { row := fnExactEvenGroundUptoRow, standIns := [], harness := (true, "b7d6dcc2aa7cdef86f383b8082d56a87f612221325217d8a5dd6fc03a61f3ad2"), looks := false }, kinds := [], alts := [], laidByText := true, laidKinds := [.data], laidTests := true, laidLooks := .later }
def FnExactEvenGroundUptoCardSaid : Prop := Claim7.holds Tryd.pinned (.plain (OpenSpec.upto fnExactEvenGroundSpec)) fnExactEvenGroundUptoCard

/-- THE SECOND FORM's CARD OF 'laws.FnExactValidBrine'. -/
def fnExactValidBrineUptoCard : Claim7 := { stood := { row := fnExactValidBrineUptoRow, standIns := [], harness := (true, "b7d6dcc2aa7cdef86f383b8082d56a87f612221325217d8a5dd6fc03a61f3ad2"), looks := false }, kinds := [], alts := [], laidByText := true, laidKinds := [.data], laidTests := true, laidLooks := .later }
def FnExactValidBrineUptoCardSaid : Prop := Claim7.holds Tryd.pinned (.plain (OpenSpec.upto fnExactValidBrineSpec)) fnExactValidBrineUptoCard

/-- THE SECOND FORM's CARD OF 'laws.FnExactGoesOut'. -/
def fnExactGoesOutUptoCard : Claim7 := { stood := { row := fnExactGoesOutUptoRow, standIns := [], harness := (true, "b7d6dcc2aa7cdef86f383b8082d56a87f612221325217d8a5dd6fc03a61f3ad2"), looks := false }, kinds := [], alts := [], laidByText := true, laidKinds := [.data], laidTests := true, laidLooks := .later }
def FnExactGoesOutUptoCardSaid : Prop := Claim7.holds Tryd.pinned (.plain (OpenSpec.upto fnExactGoesOutSpec)) fnExactGoesOutUptoCard

/-- THE SECOND FORM's CARD OF 'laws.FnExactComesIn'. -/
def fnExactComesInUptoCard : Claim7 := { stood := { row := fnExactComesInUptoRow, standIns := [], harness := (true, "b7d6dcc2aa7cdef86f383b8082d56a87f612221325217d8a5dd6fc03a61f3ad2"), looks := false }, kinds := [], alts := [], laidByText := true, laidKinds := [.data], laidTests := true, laidLooks := .later }
def FnExactComesInUptoCardSaid : Prop := Claim7.holds Tryd.pinned (.plain (OpenSpec.upto fnExactComesInSpec)) fnExactComesInUptoCard

/-- THE SECOND FORM's CARD OF 'laws.FnExactSafeStep'. -/
def fnExactSafeStepUptoCard : Claim7 := { stood := { row := fnExactSafeStepUptoRow, standIns := [], harness := (true, "b7d6dcc2aa7cdef86f383b8082d56a87f612221325217d8a5dd6fc03a61f3ad2"), looks := false }, kinds := [], alts := [], laidByText := true, laidKinds := [.data], laidTests := true, laidLooks := .later }
def FnExactSafeStepUptoCardSaid : Prop := Claim7.holds Tryd.pinned (.plain (OpenSpec.upto fnExactSafeStepSpec)) fnExactSafeStepUptoCard

/-- THE SECOND FORM's CARD OF 'laws.FnExactIsSmallStep'. -/
def fnExactIsSmallStepUptoCard : Claim7 := { stood := { row := fnExactIsSmallStepUptoRow, standIns := [], harness := (true, "b7d6dcc2aa7cdef86f383b8082d56a87f612221325217d8a5dd6fc03a61f3ad2"), looks := false }, kinds := [], alts := [], laidByText := true, laidKinds := [.data], laidTests := true, laidLooks := .later }
def FnExactIsSmallStepUptoCardSaid : Prop := Claim7.holds Tryd.pinned (.plain (OpenSpec.upto fnExactIsSmallStepSpec)) fnExactIsSmallStepUptoCard

/-- THE SECOND FORM's CARD OF 'laws.FnExactSaltIn'. -/
def fnExactSaltInUptoCard : Claim7 := { stood := { row := fnExactSaltInUptoRow, standIns := [], harness := (true, "b7d6dcc2aa7cdef86f383b8082d56a87f612221325217d8a5dd6fc03a61f3ad2"), looks := false }, kinds := [], alts := [], laidByText := true, laidKinds := [.data], laidTests := true, laidLooks := .later }
def FnExactSaltInUptoCardSaid : Prop := Claim7.holds Tryd.pinned (.plain (OpenSpec.upto fnExactSaltInSpec)) fnExactSaltInUptoCard

/-- THE SECOND FORM's CARD OF 'laws.FnExactFrontOf'. -/
def fnExactFrontOfUptoCard : Claim7 := { stood := { row := fnExactFrontOfUptoRow, standIns := [], harness := (true, "b7d6dcc2aa7cdef86f383b8082d56a87f612221325217d8a5dd6fc03a61f3ad2"), looks := false }, kinds := [], alts := [], laidByText := true, laidKinds := [.data], laidTests := true, laidLooks := .later }
def FnExactFrontOfUptoCardSaid : Prop := Claim7.holds Tryd.pinned (.plain (OpenSpec.upto fnExactFrontOfSpec)) fnExactFrontOfUptoCard

/-- THE SECOND FORM's CARD OF 'laws.FnExactDecaySalt'. -/
def fnExactDecaySaltUptoCard : Claim7 := { stood := { row := fnExactDecaySaltUptoRow, standIns := [], harness := (true, "b7d6dcc2aa7cdef86f383b8082d56a87f612221325217d8a5dd6fc03a61f3ad2"), looks := false }, kinds := [], alts := [], laidByText := true, laidKinds := [.data], laidTests := true, laidLooks := .later }
def FnExactDecaySaltUptoCardSaid : Prop := Claim7.holds Tryd.pinned (.plain (OpenSpec.upto fnExactDecaySaltSpec)) fnExactDecaySaltUptoCard

/-- THE SECOND FORM's CARD OF 'laws.FnExactSaltiestCell'. -/
def fnExactSaltiestCellUptoCard : Claim7 := { stood := { row := fnExactSaltiestCellUptoRow, standIns := [], harness := (true, "b7d6dcc2aa7cdef86f383b8082d56a87f612221325217d8a5dd6fc03a61f3ad2"), looks := false }, kinds := [], alts := [], laidByText := true, laidKinds := [.data], laidTests := true, laidLooks := .later }
def FnExactSaltiestCellUptoCardSaid : Prop := Claim7.holds Tryd.pinned (.plain (OpenSpec.upto fnExactSaltiestCellSpec)) fnExactSaltiestCellUptoCard

/-- THE SECOND FORM's CARD OF 'laws.FnExactReverseBrine'. -/
def fnExactReverseBrineUptoCard : Claim7 := { stood := { row := fnExactReverseBrineUptoRow, standIns := [], harness := (true, "b7d6dcc2aa7cdef86f383b8082d56a87f612221325217d8a5dd6fc03a61f3ad2"), looks := false }, kinds := [], alts := [], laidByText := true, laidKinds := [.data], laidTests := true, laidLooks := .later }
def FnExactReverseBrineUptoCardSaid : Prop := Claim7.holds Tryd.pinned (.plain (OpenSpec.upto fnExactReverseBrineSpec)) fnExactReverseBrineUptoCard

/-- THE SECOND FORM's CARD OF 'laws.FnExactMixBrines'. -/
def fnExactMixBrinesUptoCard : Claim7 := { stood := { row := fnExactMixBrinesUptoRow, standIns := [], harness := (true, "b7d6dcc2aa7cdef86f383b8082d56a87f612221325217d8a5dd6fc03a61f3ad2"), looks := false }, kinds := [], alts := [], laidByText := true, laidKinds := [.data], laidTests := true, laidLooks := .later }
def FnExactMixBrinesUptoCardSaid : Prop := Claim7.holds Tryd.pinned (.plain (OpenSpec.upto fnExactMixBrinesSpec)) fnExactMixBrinesUptoCard
end Rows
end Go.Proofs.YtjmekgogaiokpaaDoor
