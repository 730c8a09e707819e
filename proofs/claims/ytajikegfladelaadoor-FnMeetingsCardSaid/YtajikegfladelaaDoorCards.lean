/-
  DERIVED. GIVEN WITH THE SEED: THE CARDS: each row of YtajikegfladelaaDoorRows.lean that lists a variable, with what it lists TIED to the program's text (the seventh form; the later family's looks); each row that meets fmt, with fmt's text TOLD by the authors' own Lean function (tested against real Go, not proved from fmt's source: count such statements apart). THE CARD IS WHAT COUNTS. Prove the row's statement (the work); the ties are given (YtajikegfladelaaDoorTie.lean); close each card by the builder's one call (the guide's Derived/Test/ToyasCard.lean, 'card_holds'). Laid BY PROGRAM, IN A SANDBOX (cutbox-door.mjs). By AI agents, Wed Nov 11 2026. No macro, syntax, notation, axiom, sorry.
-/
import Derived.Test.YtajikegfladelaaDoorRows
import GoSem.ClaimSeven
namespace Go.Proofs.YtajikegfladelaaDoor
namespace Rows

/-- THE TIED CARD OF 'laws.FnExactStepWalker'. -/
def fnExactStepWalkerCard : Claim7 := { stood := { row := fnExactStepWalkerRow, standIns := [], harness := (true, "66b206b13d47d39fbed536b80a5d9ff1ea27ee0210f2f2c06175ebed6d2d97b8"), looks := false }, kinds := [], alts := [], laidByText := true, laidKinds := [.data], laidTests := true, laidLooks := .later }
def FnExactStepWalkerCardSaid : Prop := Claim7.holds Tryd.pinned (.plain (OpenSpec.ofChange fnExactStepWalkerSpec)) fnExactStepWalkerCard

/-- THE TIED CARD OF 'laws.FnExactWalkSteps'. -/
def fnExactWalkStepsCard : Claim7 := { stood := { row := fnExactWalkStepsRow, standIns := [], harness := (true, "66b206b13d47d39fbed536b80a5d9ff1ea27ee0210f2f2c06175ebed6d2d97b8"), looks := false }, kinds := [], alts := [], laidByText := true, laidKinds := [.data], laidTests := true, laidLooks := .later }
def FnExactWalkStepsCardSaid : Prop := Claim7.holds Tryd.pinned (.plain (OpenSpec.ofChange fnExactWalkStepsSpec)) fnExactWalkStepsCard

/-- THE TIED CARD OF 'laws.FnSteps'. -/
def fnStepsCard : Claim7 := { stood := { row := fnStepsRow, standIns := [], harness := (true, "66b206b13d47d39fbed536b80a5d9ff1ea27ee0210f2f2c06175ebed6d2d97b8"), looks := false }, kinds := [], alts := [], laidByText := true, laidKinds := [.data], laidTests := true, laidLooks := .later }
def FnStepsCardSaid : Prop := Claim7.holds Tryd.pinned (.plain (OpenSpec.ofChange fnStepsSpec)) fnStepsCard

/-- THE TIED CARD OF 'laws.FnExactCurvesThrough'. -/
def fnExactCurvesThroughCard : Claim7 := { stood := { row := fnExactCurvesThroughRow, standIns := [], harness := (true, "66b206b13d47d39fbed536b80a5d9ff1ea27ee0210f2f2c06175ebed6d2d97b8"), looks := false }, kinds := [], alts := [], laidByText := true, laidKinds := [.data, .data], laidTests := true, laidLooks := .later }
def FnExactCurvesThroughCardSaid : Prop := Claim7.holds Tryd.pinned (.plain (OpenSpec.ofChange fnExactCurvesThroughSpec)) fnExactCurvesThroughCard

/-- THE TIED CARD OF 'laws.FnExactSelfCrossings'. -/
def fnExactSelfCrossingsCard : Claim7 := { stood := { row := fnExactSelfCrossingsRow, standIns := [], harness := (true, "66b206b13d47d39fbed536b80a5d9ff1ea27ee0210f2f2c06175ebed6d2d97b8"), looks := false }, kinds := [], alts := [], laidByText := true, laidKinds := [.data, .data], laidTests := true, laidLooks := .later }
def FnExactSelfCrossingsCardSaid : Prop := Claim7.holds Tryd.pinned (.plain (OpenSpec.ofChange fnExactSelfCrossingsSpec)) fnExactSelfCrossingsCard

/-- THE TIED CARD OF 'laws.FnExactCommonCrossings'. -/
def fnExactCommonCrossingsCard : Claim7 := { stood := { row := fnExactCommonCrossingsRow, standIns := [], harness := (true, "66b206b13d47d39fbed536b80a5d9ff1ea27ee0210f2f2c06175ebed6d2d97b8"), looks := false }, kinds := [], alts := [], laidByText := true, laidKinds := [.data, .data], laidTests := true, laidLooks := .later }
def FnExactCommonCrossingsCardSaid : Prop := Claim7.holds Tryd.pinned (.plain (OpenSpec.ofChange fnExactCommonCrossingsSpec)) fnExactCommonCrossingsCard

/-- THE TIED CARD OF 'laws.FnMeetings'. -/
def fnMeetingsCard : Claim7 := { stood := { row := fnMeetingsRow, standIns := [], harness := (true, "66b206b13d47d39fbed536b80a5d9ff1ea27ee0210f2f2c06175ebed6d2d97b8"), looks := false }, kinds := [], alts := [], laidByText := true, laidKinds := [.data, .data], laidTests := true, laidLooks := .later }
def FnMeetingsCardSaid : Prop := Claim7.holds Tryd.pinned (.plain (OpenSpec.ofChange fnMeetingsSpec)) fnMeetingsCard

/-- THE TIED CARD OF 'laws.FnExactPairsOf'. -/
def fnExactPairsOfCard : Claim7 := { stood := { row := fnExactPairsOfRow, standIns := [], harness := (true, "66b206b13d47d39fbed536b80a5d9ff1ea27ee0210f2f2c06175ebed6d2d97b8"), looks := false }, kinds := [], alts := [], laidByText := true, laidKinds := [.data, .data], laidTests := true, laidLooks := .later }
def FnExactPairsOfCardSaid : Prop := Claim7.holds Tryd.pinned (.plain (OpenSpec.ofChange fnExactPairsOfSpec)) fnExactPairsOfCard

/-- THE TIED CARD OF 'laws.FnExactJoinPanel'. -/
def fnExactJoinPanelCard : Claim7 := { stood := { row := fnExactJoinPanelRow, standIns := [], harness := (true, "66b206b13d47d39fbed536b80a5d9ff1ea27ee0210f2f2c06175ebed6d2d97b8"), looks := false }, kinds := [], alts := [], laidByText := true, laidKinds := [.data, .data], laidTests := true, laidLooks := .later }
def FnExactJoinPanelCardSaid : Prop := Claim7.holds Tryd.pinned (.plain (OpenSpec.ofChange fnExactJoinPanelSpec)) fnExactJoinPanelCard

/-- THE TIED CARD OF 'laws.FnPairsJoined'. -/
def fnPairsJoinedCard : Claim7 := { stood := { row := fnPairsJoinedRow, standIns := [], harness := (true, "66b206b13d47d39fbed536b80a5d9ff1ea27ee0210f2f2c06175ebed6d2d97b8"), looks := false }, kinds := [], alts := [], laidByText := true, laidKinds := [.data, .data], laidTests := true, laidLooks := .later }
def FnPairsJoinedCardSaid : Prop := Claim7.holds Tryd.pinned (.plain (OpenSpec.ofChange fnPairsJoinedSpec)) fnPairsJoinedCard

/-- THE SECOND FORM's CARD OF 'laws.FnExactStepWalker'. -/
def fnExactStepWalkerUptoCard : Claim7 := { stood := { row := fnExactStepWalkerUptoRow, standIns := [], harness := (true, "66b206b13d47d39fbed536b80a5d9ff1ea27ee0210f2f2c06175ebed6d2d97b8"), looks := false }, kinds := [], alts := [], laidByText := true, laidKinds := [.data], laidTests := true, laidLooks := .later }
def FnExactStepWalkerUptoCardSaid : Prop := Claim7.holds Tryd.pinned (.plain (OpenSpec.upto fnExactStepWalkerSpec)) fnExactStepWalkerUptoCard

/-- THE SECOND FORM's CARD OF 'laws.FnExactWalkSteps'. -/
def fnExactWalkStepsUptoCard : Claim7 := { stood := { row := fnExactWalkStepsUptoRow, standIns := [], harness := (true, "66b206b13d47d39fbed536b80a5d9ff1ea27ee0210f2f2c06175ebed6d2d97b8"), looks := false }, kinds := [], alts := [], laidByText := true, laidKinds := [.data], laidTests := true, laidLooks := .later }
def FnExactWalkStepsUptoCardSaid : Prop := Claim7.holds Tryd.pinned (.plain (OpenSpec.upto fnExactWalkStepsSpec)) fnExactWalkStepsUptoCard

/-- THE SECOND FORM's CARD OF 'laws.FnSteps'. -/
def fnStepsUptoCard : Claim7 := { stood := { row := fnStepsUptoRow, standIns := [], harness := (true, "66b206b13d47d39fbed536b80a5d9ff1ea27ee0210f2f2c06175ebed6d2d97b8"), looks := false }, kinds := [], alts := [], laidByText := true, laidKinds := [.data], laidTests := true, laidLooks := .later }
def FnStepsUptoCardSaid : Prop := Claim7.holds Tryd.pinned (.plain (OpenSpec.upto fnStepsSpec)) fnStepsUptoCard

/-- THE SECOND FORM's CARD OF 'laws.FnExactCurvesThrough'. -/
def fnExactCurvesThroughUptoCard : Claim7 := { stood := { row := fnExactCurvesThroughUptoRow, standIns := [], harness := (true, "66b206b13d47d39fbed536b80a5d9ff1ea27ee0210f2f2c06175ebed6d2d97b8"), looks := false }, kinds := [], alts := [], laidByText := true, laidKinds := [.data, .data], laidTests := true, laidLooks := .later }
def FnExactCurvesThroughUptoCardSaid : Prop := Claim7.holds Tryd.pinned (.plain (OpenSpec.upto fnExactCurvesThroughSpec)) fnExactCurvesThroughUptoCard

/-- THE SECOND FORM's CARD OF 'laws.FnExactSelfCrossings'. -/
def fnExactSelfCrossingsUptoCard : Claim7 := { stood := { row := fnExactSelfCrossingsUptoRow, standIns := [], harness := (true, "66b206b13d47d39fbed536b80a5d9ff1ea27ee0210f2f2c06175ebed6d2d97b8"), looks := false }, kinds := [], alts := [], laidByText := true, laidKinds := [.data, .data], laidTests := true, laidLooks := .later }
def FnExactSelfCrossingsUptoCardSaid : Prop := Claim7.holds Tryd.pinned (.plain (OpenSpec.upto fnExactSelfCrossingsSpec)) fnExactSelfCrossingsUptoCard

/-- THE SECOND FORM's CARD OF 'laws.FnExactCommonCrossings'. -/
def fnExactCommonCrossingsUptoCard : Claim7 := { stood := { row := fnExactCommonCrossingsUptoRow, standIns := [], harness := (true, "66b206b13d47d39fbed536b80a5d9ff1ea27ee0210f2f2c06175ebed6d2d97b8"), looks := false }, kinds := [], alts := [], laidByText := true, laidKinds := [.data, .data], laidTests := true, laidLooks := .later }
def FnExactCommonCrossingsUptoCardSaid : Prop := Claim7.holds Tryd.pinned (.plain (OpenSpec.upto fnExactCommonCrossingsSpec)) fnExactCommonCrossingsUptoCard

/-- THE SECOND FORM's CARD OF 'laws.FnMeetings'. -/
def fnMeetingsUptoCard : Claim7 := { stood := { row := fnMeetingsUptoRow, standIns := [], harness := (true, "66b206b13d47d39fbed536b80a5d9ff1ea27ee0210f2f2c06175ebed6d2d97b8"), looks := false }, kinds := [], alts := [], laidByText := true, laidKinds := [.data, .data], laidTests := true, laidLooks := .later }
def FnMeetingsUptoCardSaid : Prop := Claim7.holds Tryd.pinned (.plain (OpenSpec.upto fnMeetingsSpec)) fnMeetingsUptoCard

/-- THE SECOND FORM's CARD OF 'laws.FnExactPairsOf'. -/
def fnExactPairsOfUptoCard : Claim7 := { stood := { row := fnExactPairsOfUptoRow, standIns := [], harness := (true, "66b206b13d47d39fbed536b80a5d9ff1ea27ee0210f2f2c06175ebed6d2d97b8"), looks := false }, kinds := [], alts := [], laidByText := true, laidKinds := [.data, .data], laidTests := true, laidLooks := .later }
def FnExactPairsOfUptoCardSaid : Prop := Claim7.holds Tryd.pinned (.plain (OpenSpec.upto fnExactPairsOfSpec)) fnExactPairsOfUptoCard

/-- THE SECOND FORM's CARD OF 'laws.FnExactJoinPanel'. -/
def fnExactJoinPanelUptoCard : Claim7 := { stood := { row := fnExactJoinPanelUptoRow, standIns := [], harness := (true, "66b206b13d47d39fbed536b80a5d9ff1ea27ee0210f2f2c06175ebed6d2d97b8"), looks := false }, kinds := [], alts := [], laidByText := true, laidKinds := [.data, .data], laidTests := true, laidLooks := .later }
def FnExactJoinPanelUptoCardSaid : Prop := Claim7.holds Tryd.pinned (.plain (OpenSpec.upto fnExactJoinPanelSpec)) fnExactJoinPanelUptoCard

/-- THE SECOND FORM's CARD OF 'laws.FnPairsJoined'. -/
def fnPairsJoinedUptoCard : Claim7 := { stood := { row := fnPairsJoinedUptoRow, standIns := [], harness := (true, "66b206b13d47d39fbed536b80a5d9ff1ea27ee0210f2f2c06175ebed6d2d97b8"), looks := false }, kinds := [], alts := [], laidByText := true, laidKinds := [.data, .data], laidTests := true, laidLooks := .later }
def FnPairsJoinedUptoCardSaid : Prop := Claim7.holds Tryd.pinned (.plain (OpenSpec.upto fnPairsJoinedSpec)) fnPairsJoinedUptoCard
end Rows
end Go.Proofs.YtajikegfladelaaDoor
