/-
  DERIVED. GIVEN WITH THE SEED: THE CARDS: each row of YtfkodbpkfoecoaaDoorRows.lean that lists a variable, with what it lists TIED to the program's text (the seventh form; the later family's looks); each row that meets fmt, with fmt's text TOLD by the authors' own Lean function (tested against real Go, not proved from fmt's source: count such statements apart). THE CARD IS WHAT COUNTS. Prove the row's statement (the work); the ties are given (YtfkodbpkfoecoaaDoorTie.lean); close each card by the builder's one call (the guide's Derived/Test/ToyasCard.lean, 'card_holds'). Laid BY PROGRAM, IN A SANDBOX (cutbox-door.mjs). By AI agents, Wed Nov 11 2026. No macro, syntax, notation, axiom, sorry.
-/
import Derived.Test.YtfkodbpkfoecoaaDoorRows
import GoSem.ClaimSeven
namespace Go.Proofs.YtfkodbpkfoecoaaDoor
namespace Rows

/-- THE TIED CARD OF 'laws.FnSteps'. -/
def fnStepsCard : Claim7 := { stood := { row := fnStepsRow, standIns := [], harness := (true, "d7cda1b733a15e93bbe2e398a2662c0c758309cddd3a534f8434423d9f837b59"), looks := true }, kinds := [], alts := [], goes := true, laidByText := true, laidKinds := [.data], laidTests := true, laidLooks := .later }
def FnStepsCardSaid : Prop := Claim7.holds Tryd.pinned (.plain (OpenSpec.ofChange fnStepsSpec)) fnStepsCard

/-- THE TIED CARD OF 'laws.FnCurves'. -/
def fnCurvesCard : Claim7 := { stood := { row := fnCurvesRow, standIns := [], harness := (true, "d7cda1b733a15e93bbe2e398a2662c0c758309cddd3a534f8434423d9f837b59"), looks := true }, kinds := [], alts := [], goes := true, laidByText := true, laidKinds := [.data], laidTests := true, laidLooks := .later }
def FnCurvesCardSaid : Prop := Claim7.holds Tryd.pinned (.plain (OpenSpec.ofChange fnCurvesSpec)) fnCurvesCard

/-- THE TIED CARD OF 'laws.FnMeetings'. -/
def fnMeetingsCard : Claim7 := { stood := { row := fnMeetingsRow, standIns := [], harness := (true, "d7cda1b733a15e93bbe2e398a2662c0c758309cddd3a534f8434423d9f837b59"), looks := true }, kinds := [], alts := [], goes := true, laidByText := true, laidKinds := [.data, .data], laidTests := true, laidLooks := .later }
def FnMeetingsCardSaid : Prop := Claim7.holds Tryd.pinned (.plain (OpenSpec.ofChange fnMeetingsSpec)) fnMeetingsCard

/-- THE TIED CARD OF 'laws.FnExactDecimal'. -/
def fnExactDecimalCard : Claim7 := { stood := { row := fnExactDecimalRow, standIns := [], harness := (true, "d7cda1b733a15e93bbe2e398a2662c0c758309cddd3a534f8434423d9f837b59"), looks := true }, kinds := [], alts := [], laidByText := true, laidKinds := [.data, .data, .data], laidTests := true, laidLooks := .later }
def FnExactDecimalCardSaid : Prop := Claim7.holds Tryd.pinned (.plain (OpenSpec.ofChange fnExactDecimalSpec)) fnExactDecimalCard

/-- THE TIED CARD OF 'laws.FnExactReadDecimal'. -/
def fnExactReadDecimalCard : Claim7 := { stood := { row := fnExactReadDecimalRow, standIns := [], harness := (true, "d7cda1b733a15e93bbe2e398a2662c0c758309cddd3a534f8434423d9f837b59"), looks := true }, kinds := [], alts := [], laidByText := true, laidKinds := [.data, .data, .data, .sentinel, .sentinel], laidTests := true, laidLooks := .later }
def FnExactReadDecimalCardSaid : Prop := Claim7.holds Tryd.pinned (.plain (OpenSpec.ofChange fnExactReadDecimalSpec)) fnExactReadDecimalCard

/-- THE TIED CARD OF 'laws.FnExactWalkSteps'. -/
def fnExactWalkStepsCard : Claim7 := { stood := { row := fnExactWalkStepsRow, standIns := [], harness := (true, "d7cda1b733a15e93bbe2e398a2662c0c758309cddd3a534f8434423d9f837b59"), looks := true }, kinds := [], alts := [], goes := true, laidByText := true, laidKinds := [.data], laidTests := true, laidLooks := .later }
def FnExactWalkStepsCardSaid : Prop := Claim7.holds Tryd.pinned (.plain (OpenSpec.ofChange fnExactWalkStepsSpec)) fnExactWalkStepsCard

/-- THE TIED CARD OF 'laws.FnExactCurvesOf'. -/
def fnExactCurvesOfCard : Claim7 := { stood := { row := fnExactCurvesOfRow, standIns := [], harness := (true, "d7cda1b733a15e93bbe2e398a2662c0c758309cddd3a534f8434423d9f837b59"), looks := true }, kinds := [], alts := [], goes := true, laidByText := true, laidKinds := [.data], laidTests := true, laidLooks := .later }
def FnExactCurvesOfCardSaid : Prop := Claim7.holds Tryd.pinned (.plain (OpenSpec.ofChange fnExactCurvesOfSpec)) fnExactCurvesOfCard

/-- THE TIED CARD OF 'laws.FnExactCountCurves'. -/
def fnExactCountCurvesCard : Claim7 := { stood := { row := fnExactCountCurvesRow, standIns := [], harness := (true, "d7cda1b733a15e93bbe2e398a2662c0c758309cddd3a534f8434423d9f837b59"), looks := true }, kinds := [], alts := [], goes := true, laidByText := true, laidKinds := [.data], laidTests := true, laidLooks := .later }
def FnExactCountCurvesCardSaid : Prop := Claim7.holds Tryd.pinned (.plain (OpenSpec.ofChange fnExactCountCurvesSpec)) fnExactCountCurvesCard

/-- THE TIED CARD OF 'laws.FnExactCurveAt'. -/
def fnExactCurveAtCard : Claim7 := { stood := { row := fnExactCurveAtRow, standIns := [], harness := (true, "d7cda1b733a15e93bbe2e398a2662c0c758309cddd3a534f8434423d9f837b59"), looks := true }, kinds := [], alts := [], goes := true, laidByText := true, laidKinds := [.data], laidTests := true, laidLooks := .later }
def FnExactCurveAtCardSaid : Prop := Claim7.holds Tryd.pinned (.plain (OpenSpec.ofChange fnExactCurveAtSpec)) fnExactCurveAtCard

/-- THE TIED CARD OF 'laws.FnExactCurveLengths'. -/
def fnExactCurveLengthsCard : Claim7 := { stood := { row := fnExactCurveLengthsRow, standIns := [], harness := (true, "d7cda1b733a15e93bbe2e398a2662c0c758309cddd3a534f8434423d9f837b59"), looks := true }, kinds := [], alts := [], goes := true, laidByText := true, laidKinds := [.data], laidTests := true, laidLooks := .later }
def FnExactCurveLengthsCardSaid : Prop := Claim7.holds Tryd.pinned (.plain (OpenSpec.ofChange fnExactCurveLengthsSpec)) fnExactCurveLengthsCard

/-- THE TIED CARD OF 'laws.FnExactSegmentCurves'. -/
def fnExactSegmentCurvesCard : Claim7 := { stood := { row := fnExactSegmentCurvesRow, standIns := [], harness := (true, "d7cda1b733a15e93bbe2e398a2662c0c758309cddd3a534f8434423d9f837b59"), looks := true }, kinds := [], alts := [], goes := true, laidByText := true, laidKinds := [.data], laidTests := true, laidLooks := .later }
def FnExactSegmentCurvesCardSaid : Prop := Claim7.holds Tryd.pinned (.plain (OpenSpec.ofChange fnExactSegmentCurvesSpec)) fnExactSegmentCurvesCard

/-- THE SECOND FORM's CARD OF 'laws.FnSteps'. -/
def fnStepsUptoCard : Claim7 := { stood := { row := fnStepsUptoRow, standIns := [], harness := (true, "d7cda1b733a15e93bbe2e398a2662c0c758309cddd3a534f8434423d9f837b59"), looks := true }, kinds := [], alts := [], goes := true, laidByText := true, laidKinds := [.data], laidTests := true, laidLooks := .later }
def FnStepsUptoCardSaid : Prop := Claim7.holds Tryd.pinned (.plain (OpenSpec.upto fnStepsSpec)) fnStepsUptoCard

/-- THE SECOND FORM's CARD OF 'laws.FnCurves'. -/
def fnCurvesUptoCard : Claim7 := { stood := { row := fnCurvesUptoRow, standIns := [], harness := (true, "d7cda1b733a15e93bbe2e398a2662c0c758309cddd3a534f8434423d9f837b59"), looks := true }, kinds := [], alts := [], goes := true, laidByText := true, laidKinds := [.data], laidTests := true, laidLooks := .later }
def FnCurvesUptoCardSaid : Prop := Claim7.holds Tryd.pinned (.plain (OpenSpec.upto fnCurvesSpec)) fnCurvesUptoCard

/-- THE SECOND FORM's CARD OF 'laws.FnMeetings'. -/
def fnMeetingsUptoCard : Claim7 := { stood := { row := fnMeetingsUptoRow, standIns := [], harness := (true, "d7cda1b733a15e93bbe2e398a2662c0c758309cddd3a534f8434423d9f837b59"), looks := true }, kinds := [], alts := [], goes := true, laidByText := true, laidKinds := [.data, .data], laidTests := true, laidLooks := .later }
def FnMeetingsUptoCardSaid : Prop := Claim7.holds Tryd.pinned (.plain (OpenSpec.upto fnMeetingsSpec)) fnMeetingsUptoCard

/-- THE SECOND FORM's CARD OF 'laws.FnExactDecimal'. -/
def fnExactDecimalUptoCard : Claim7 := { stood := { row := fnExactDecimalUptoRow, standIns := [], harness := (true, "d7cda1b733a15e93bbe2e398a2662c0c758309cddd3a534f8434423d9f837b59"), looks := true }, kinds := [], alts := [], laidByText := true, laidKinds := [.data, .data, .data], laidTests := true, laidLooks := .later }
def FnExactDecimalUptoCardSaid : Prop := Claim7.holds Tryd.pinned (.plain (OpenSpec.upto fnExactDecimalSpec)) fnExactDecimalUptoCard

/-- THE SECOND FORM's CARD OF 'laws.FnExactReadDecimal'. -/
def fnExactReadDecimalUptoCard : Claim7 := { stood := { row := fnExactReadDecimalUptoRow, standIns := [], harness := (true, "d7cda1b733a15e93bbe2e398a2662c0c758309cddd3a534f8434423d9f837b59"), looks := true }, kinds := [], alts := [], laidByText := true, laidKinds := [.data, .data, .data, .sentinel, .sentinel], laidTests := true, laidLooks := .later }
def FnExactReadDecimalUptoCardSaid : Prop := Claim7.holds Tryd.pinned (.plain (OpenSpec.upto fnExactReadDecimalSpec)) fnExactReadDecimalUptoCard

/-- THE SECOND FORM's CARD OF 'laws.FnExactWalkSteps'. -/
def fnExactWalkStepsUptoCard : Claim7 := { stood := { row := fnExactWalkStepsUptoRow, standIns := [], harness := (true, "d7cda1b733a15e93bbe2e398a2662c0c758309cddd3a534f8434423d9f837b59"), looks := true }, kinds := [], alts := [], goes := true, laidByText := true, laidKinds := [.data], laidTests := true, laidLooks := .later }
def FnExactWalkStepsUptoCardSaid : Prop := Claim7.holds Tryd.pinned (.plain (OpenSpec.upto fnExactWalkStepsSpec)) fnExactWalkStepsUptoCard

/-- THE SECOND FORM's CARD OF 'laws.FnExactCurvesOf'. -/
def fnExactCurvesOfUptoCard : Claim7 := { stood := { row := fnExactCurvesOfUptoRow, standIns := [], harness := (true, "d7cda1b733a15e93bbe2e398a2662c0c758309cddd3a534f8434423d9f837b59"), looks := true }, kinds := [], alts := [], goes := true, laidByText := true, laidKinds := [.data], laidTests := true, laidLooks := .later }
def FnExactCurvesOfUptoCardSaid : Prop := Claim7.holds Tryd.pinned (.plain (OpenSpec.upto fnExactCurvesOfSpec)) fnExactCurvesOfUptoCard

/-- THE SECOND FORM's CARD OF 'laws.FnExactCountCurves'. -/
def fnExactCountCurvesUptoCard : Claim7 := { stood := { row := fnExactCountCurvesUptoRow, standIns := [], harness := (true, "d7cda1b733a15e93bbe2e398a2662c0c758309cddd3a534f8434423d9f837b59"), looks := true }, kinds := [], alts := [], goes := true, laidByText := true, laidKinds := [.data], laidTests := true, laidLooks := .later }
def FnExactCountCurvesUptoCardSaid : Prop := Claim7.holds Tryd.pinned (.plain (OpenSpec.upto fnExactCountCurvesSpec)) fnExactCountCurvesUptoCard

/-- THE SECOND FORM's CARD OF 'laws.FnExactCurveAt'. -/
def fnExactCurveAtUptoCard : Claim7 := { stood := { row := fnExactCurveAtUptoRow, standIns := [], harness := (true, "d7cda1b733a15e93bbe2e398a2662c0c758309cddd3a534f8434423d9f837b59"), looks := true }, kinds := [], alts := [], goes := true, laidByText := true, laidKinds := [.data], laidTests := true, laidLooks := .later }
def FnExactCurveAtUptoCardSaid : Prop := Claim7.holds Tryd.pinned (.plain (OpenSpec.upto fnExactCurveAtSpec)) fnExactCurveAtUptoCard

/-- THE SECOND FORM's CARD OF 'laws.FnExactCurveLengths'. -/
def fnExactCurveLengthsUptoCard : Claim7 := { stood := { row := fnExactCurveLengthsUptoRow, standIns := [], harness := (true, "d7cda1b733a15e93bbe2e398a2662c0c758309cddd3a534f8434423d9f837b59"), looks := true }, kinds := [], alts := [], goes := true, laidByText := true, laidKinds := [.data], laidTests := true, laidLooks := .later }
def FnExactCurveLengthsUptoCardSaid : Prop := Claim7.holds Tryd.pinned (.plain (OpenSpec.upto fnExactCurveLengthsSpec)) fnExactCurveLengthsUptoCard

/-- THE SECOND FORM's CARD OF 'laws.FnExactSegmentCurves'. -/
def fnExactSegmentCurvesUptoCard : Claim7 := { stood := { row := fnExactSegmentCurvesUptoRow, standIns := [], harness := (true, "d7cda1b733a15e93bbe2e398a2662c0c758309cddd3a534f8434423d9f837b59"), looks := true }, kinds := [], alts := [], goes := true, laidByText := true, laidKinds := [.data], laidTests := true, laidLooks := .later }
def FnExactSegmentCurvesUptoCardSaid : Prop := Claim7.holds Tryd.pinned (.plain (OpenSpec.upto fnExactSegmentCurvesSpec)) fnExactSegmentCurvesUptoCard
end Rows
end Go.Proofs.YtfkodbpkfoecoaaDoor
