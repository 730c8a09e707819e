/-
  DERIVED. GIVEN WITH THE SEED: THE CARDS: each row of YtdofeonkgaceeabDoorRows.lean that lists a variable, with what it lists TIED to the program's text (the seventh form; the later family's looks); each row that meets fmt, with fmt's text TOLD by the authors' own Lean function (tested against real Go, not proved from fmt's source: count such statements apart). THE CARD IS WHAT COUNTS. Prove the row's statement (the work); the ties are given (YtdofeonkgaceeabDoorTie.lean); close each card by the builder's one call (the guide's Derived/Test/ToyasCard.lean, 'card_holds'). Laid BY PROGRAM, IN A SANDBOX (cutbox-door.mjs). By AI agents, Wed Nov 11 2026. No macro, syntax, notation, axiom, sorry.
-/
import Derived.Test.YtdofeonkgaceeabDoorRows
import GoSem.ClaimSeven
namespace Go.Proofs.YtdofeonkgaceeabDoor
namespace Rows

/-- THE TIED CARD OF 'laws.FnExactCountCurves'. -/
def fnExactCountCurvesCard : Claim7 := { stood := { row := fnExactCountCurvesRow, standIns := [], harness := (true, "ed14e3040c159c458b8957ef3c61dac9f918564ce29ca91049505da73b61c38c"), looks := false }, kinds := [], alts := [], laidByText := true, laidKinds := [.data], laidTests := true, laidLooks := .later }
def FnExactCountCurvesCardSaid : Prop := Claim7.holds Tryd.pinned (.plain (OpenSpec.ofChange fnExactCountCurvesSpec)) fnExactCountCurvesCard

/-- THE TIED CARD OF 'laws.FnExactCurveAt'. -/
def fnExactCurveAtCard : Claim7 := { stood := { row := fnExactCurveAtRow, standIns := [], harness := (true, "ed14e3040c159c458b8957ef3c61dac9f918564ce29ca91049505da73b61c38c"), looks := false }, kinds := [], alts := [], laidByText := true, laidKinds := [.data], laidTests := true, laidLooks := .later }
def FnExactCurveAtCardSaid : Prop := Claim7.holds Tryd.pinned (.plain (OpenSpec.ofChange fnExactCurveAtSpec)) fnExactCurveAtCard

/-- THE TIED CARD OF 'laws.FnExactCurveLengths'. -/
def fnExactCurveLengthsCard : Claim7 := { stood := { row := fnExactCurveLengthsRow, standIns := [], harness := (true, "ed14e3040c159c458b8957ef3c61dac9f918564ce29ca91049505da73b61c38c"), looks := false }, kinds := [], alts := [], laidByText := true, laidKinds := [.data], laidTests := true, laidLooks := .later }
def FnExactCurveLengthsCardSaid : Prop := Claim7.holds Tryd.pinned (.plain (OpenSpec.ofChange fnExactCurveLengthsSpec)) fnExactCurveLengthsCard

/-- THE TIED CARD OF 'laws.FnExactSegmentCurves'. -/
def fnExactSegmentCurvesCard : Claim7 := { stood := { row := fnExactSegmentCurvesRow, standIns := [], harness := (true, "ed14e3040c159c458b8957ef3c61dac9f918564ce29ca91049505da73b61c38c"), looks := false }, kinds := [], alts := [], laidByText := true, laidKinds := [.data], laidTests := true, laidLooks := .later }
def FnExactSegmentCurvesCardSaid : Prop := Claim7.holds Tryd.pinned (.plain (OpenSpec.ofChange fnExactSegmentCurvesSpec)) fnExactSegmentCurvesCard

/-- THE TIED CARD OF 'laws.FnExactCurvesThrough'. -/
def fnExactCurvesThroughCard : Claim7 := { stood := { row := fnExactCurvesThroughRow, standIns := [], harness := (true, "ed14e3040c159c458b8957ef3c61dac9f918564ce29ca91049505da73b61c38c"), looks := false }, kinds := [], alts := [], laidByText := true, laidKinds := [.data, .data], laidTests := true, laidLooks := .later }
def FnExactCurvesThroughCardSaid : Prop := Claim7.holds Tryd.pinned (.plain (OpenSpec.ofChange fnExactCurvesThroughSpec)) fnExactCurvesThroughCard

/-- THE TIED CARD OF 'laws.FnExactSelfCrossings'. -/
def fnExactSelfCrossingsCard : Claim7 := { stood := { row := fnExactSelfCrossingsRow, standIns := [], harness := (true, "ed14e3040c159c458b8957ef3c61dac9f918564ce29ca91049505da73b61c38c"), looks := false }, kinds := [], alts := [], laidByText := true, laidKinds := [.data, .data], laidTests := true, laidLooks := .later }
def FnExactSelfCrossingsCardSaid : Prop := Claim7.holds Tryd.pinned (.plain (OpenSpec.ofChange fnExactSelfCrossingsSpec)) fnExactSelfCrossingsCard

/-- THE TIED CARD OF 'laws.FnExactCommonCrossings'. -/
def fnExactCommonCrossingsCard : Claim7 := { stood := { row := fnExactCommonCrossingsRow, standIns := [], harness := (true, "ed14e3040c159c458b8957ef3c61dac9f918564ce29ca91049505da73b61c38c"), looks := false }, kinds := [], alts := [], laidByText := true, laidKinds := [.data, .data], laidTests := true, laidLooks := .later }
def FnExactCommonCrossingsCardSaid : Prop := Claim7.holds Tryd.pinned (.plain (OpenSpec.ofChange fnExactCommonCrossingsSpec)) fnExactCommonCrossingsCard

/-- THE TIED CARD OF 'laws.FnExactIsSingle'. -/
def fnExactIsSingleCard : Claim7 := { stood := { row := fnExactIsSingleRow, standIns := [], harness := (true, "ed14e3040c159c458b8957ef3c61dac9f918564ce29ca91049505da73b61c38c"), looks := false }, kinds := [], alts := [], laidByText := true, laidKinds := [.data], laidTests := true, laidLooks := .later }
def FnExactIsSingleCardSaid : Prop := Claim7.holds Tryd.pinned (.plain (OpenSpec.ofChange fnExactIsSingleSpec)) fnExactIsSingleCard

/-- THE TIED CARD OF 'laws.FnExactTouchesOf'. -/
def fnExactTouchesOfCard : Claim7 := { stood := { row := fnExactTouchesOfRow, standIns := [], harness := (true, "ed14e3040c159c458b8957ef3c61dac9f918564ce29ca91049505da73b61c38c"), looks := false }, kinds := [], alts := [], laidByText := true, laidKinds := [.data], laidTests := true, laidLooks := .later }
def FnExactTouchesOfCardSaid : Prop := Claim7.holds Tryd.pinned (.plain (OpenSpec.ofChange fnExactTouchesOfSpec)) fnExactTouchesOfCard

/-- THE TIED CARD OF 'laws.FnMeetings'. -/
def fnMeetingsCard : Claim7 := { stood := { row := fnMeetingsRow, standIns := [], harness := (true, "ed14e3040c159c458b8957ef3c61dac9f918564ce29ca91049505da73b61c38c"), looks := false }, kinds := [], alts := [], laidByText := true, laidKinds := [.data, .data], laidTests := true, laidLooks := .later }
def FnMeetingsCardSaid : Prop := Claim7.holds Tryd.pinned (.plain (OpenSpec.ofChange fnMeetingsSpec)) fnMeetingsCard

/-- THE TIED CARD OF 'laws.FnExactCurvePicture'. -/
def fnExactCurvePictureCard : Claim7 := { stood := { row := fnExactCurvePictureRow, standIns := [], harness := (true, "ed14e3040c159c458b8957ef3c61dac9f918564ce29ca91049505da73b61c38c"), looks := false }, kinds := [], alts := [], laidByText := true, laidKinds := [.data], laidTests := true, laidLooks := .later }
def FnExactCurvePictureCardSaid : Prop := Claim7.holds Tryd.pinned (.plain (OpenSpec.ofChange fnExactCurvePictureSpec)) fnExactCurvePictureCard

/-- THE TIED CARD OF 'laws.FnCurvePictures'. -/
def fnCurvePicturesCard : Claim7 := { stood := { row := fnCurvePicturesRow, standIns := [], harness := (true, "ed14e3040c159c458b8957ef3c61dac9f918564ce29ca91049505da73b61c38c"), looks := false }, kinds := [], alts := [], laidByText := true, laidKinds := [.data, .data], laidTests := true, laidLooks := .later }
def FnCurvePicturesCardSaid : Prop := Claim7.holds Tryd.pinned (.plain (OpenSpec.ofChange fnCurvePicturesSpec)) fnCurvePicturesCard

/-- THE SECOND FORM's CARD OF 'laws.FnExactCountCurves'. -/
def fnExactCountCurvesUptoCard : Claim7 := { stood := { row := fnExactCountCurvesUptoRow, standIns := [], harness := (true, "ed14e3040c159c458b8957ef3c61dac9f918564ce29ca91049505da73b61c38c"), looks := false }, kinds := [], alts := [], laidByText := true, laidKinds := [.data], laidTests := true, laidLooks := .later }
def FnExactCountCurvesUptoCardSaid : Prop := Claim7.holds Tryd.pinned (.plain (OpenSpec.upto fnExactCountCurvesSpec)) fnExactCountCurvesUptoCard

/-- THE SECOND FORM's CARD OF 'laws.FnExactCurveAt'. -/
def fnExactCurveAtUptoCard : Claim7 := { stood := { row := fnExactCurveAtUptoRow, standIns := [], harness := (true, "ed14e3040c159c458b8957ef3c61dac9f918564ce29ca91049505da73b61c38c"), looks := false }, kinds := [], alts := [], laidByText := true, laidKinds := [.data], laidTests := true, laidLooks := .later }
def FnExactCurveAtUptoCardSaid : Prop := Claim7.holds Tryd.pinned (.plain (OpenSpec.upto fnExactCurveAtSpec)) fnExactCurveAtUptoCard

/-- THE SECOND FORM's CARD OF 'laws.FnExactCurveLengths'. -/
def fnExactCurveLengthsUptoCard : Claim7 := { stood := { row := fnExactCurveLengthsUptoRow, standIns := [], harness := (true, "ed14e3040c159c458b8957ef3c61dac9f918564ce29ca91049505da73b61c38c"), looks := false }, kinds := [], alts := [], laidByText := true, laidKinds := [.data], laidTests := true, laidLooks := .later }
def FnExactCurveLengthsUptoCardSaid : Prop := Claim7.holds Tryd.pinned (.plain (OpenSpec.upto fnExactCurveLengthsSpec)) fnExactCurveLengthsUptoCard

/-- THE SECOND FORM's CARD OF 'laws.FnExactSegmentCurves'. -/
def fnExactSegmentCurvesUptoCard : Claim7 := { stood := { row := fnExactSegmentCurvesUptoRow, standIns := [], harness := (true, "ed14e3040c159c458b8957ef3c61dac9f918564ce29ca91049505da73b61c38c"), looks := false }, kinds := [], alts := [], laidByText := true, laidKinds := [.data], laidTests := true, laidLooks := .later }
def FnExactSegmentCurvesUptoCardSaid : Prop := Claim7.holds Tryd.pinned (.plain (OpenSpec.upto fnExactSegmentCurvesSpec)) fnExactSegmentCurvesUptoCard

/-- THE SECOND FORM's CARD OF 'laws.FnExactCurvesThrough'. -/
def fnExactCurvesThroughUptoCard : Claim7 := { stood := { row := fnExactCurvesThroughUptoRow, standIns := [], harness := (true, "ed14e3040c159c458b8957ef3c61dac9f918564ce29ca91049505da73b61c38c"), looks := false }, kinds := [], alts := [], laidByText := true, laidKinds := [.data, .data], laidTests := true, laidLooks := .later }
def FnExactCurvesThroughUptoCardSaid : Prop := Claim7.holds Tryd.pinned (.plain (OpenSpec.upto fnExactCurvesThroughSpec)) fnExactCurvesThroughUptoCard

/-- THE SECOND FORM's CARD OF 'laws.FnExactSelfCrossings'. -/
def fnExactSelfCrossingsUptoCard : Claim7 := { stood := { row := fnExactSelfCrossingsUptoRow, standIns := [], harness := (true, "ed14e3040c159c458b8957ef3c61dac9f918564ce29ca91049505da73b61c38c"), looks := false }, kinds := [], alts := [], laidByText := true, laidKinds := [.data, .data], laidTests := true, laidLooks := .later }
def FnExactSelfCrossingsUptoCardSaid : Prop := Claim7.holds Tryd.pinned (.plain (OpenSpec.upto fnExactSelfCrossingsSpec)) fnExactSelfCrossingsUptoCard

/-- THE SECOND FORM's CARD OF 'laws.FnExactCommonCrossings'. -/
def fnExactCommonCrossingsUptoCard : Claim7 := { stood := { row := fnExactCommonCrossingsUptoRow, standIns := [], harness := (true, "ed14e3040c159c458b8957ef3c61dac9f918564ce29ca91049505da73b61c38c"), looks := false }, kinds := [], alts := [], laidByText := true, laidKinds := [.data, .data], laidTests := true, laidLooks := .later }
def FnExactCommonCrossingsUptoCardSaid : Prop := Claim7.holds Tryd.pinned (.plain (OpenSpec.upto fnExactCommonCrossingsSpec)) fnExactCommonCrossingsUptoCard

/-- THE SECOND FORM's CARD OF 'laws.FnExactIsSingle'. -/
def fnExactIsSingleUptoCard : Claim7 := { stood := { row := fnExactIsSingleUptoRow, standIns := [], harness := (true, "ed14e3040c159c458b8957ef3c61dac9f918564ce29ca91049505da73b61c38c"), looks := false }, kinds := [], alts := [], laidByText := true, laidKinds := [.data], laidTests := true, laidLooks := .later }
def FnExactIsSingleUptoCardSaid : Prop := Claim7.holds Tryd.pinned (.plain (OpenSpec.upto fnExactIsSingleSpec)) fnExactIsSingleUptoCard

/-- THE SECOND FORM's CARD OF 'laws.FnExactTouchesOf'. -/
def fnExactTouchesOfUptoCard : Claim7 := { stood := { row := fnExactTouchesOfUptoRow, standIns := [], harness := (true, "ed14e3040c159c458b8957ef3c61dac9f918564ce29ca91049505da73b61c38c"), looks := false }, kinds := [], alts := [], laidByText := true, laidKinds := [.data], laidTests := true, laidLooks := .later }
def FnExactTouchesOfUptoCardSaid : Prop := Claim7.holds Tryd.pinned (.plain (OpenSpec.upto fnExactTouchesOfSpec)) fnExactTouchesOfUptoCard

/-- THE SECOND FORM's CARD OF 'laws.FnMeetings'. -/
def fnMeetingsUptoCard : Claim7 := { stood := { row := fnMeetingsUptoRow, standIns := [], harness := (true, "ed14e3040c159c458b8957ef3c61dac9f918564ce29ca91049505da73b61c38c"), looks := false }, kinds := [], alts := [], laidByText := true, laidKinds := [.data, .data], laidTests := true, laidLooks := .later }
def FnMeetingsUptoCardSaid : Prop := Claim7.holds Tryd.pinned (.plain (OpenSpec.upto fnMeetingsSpec)) fnMeetingsUptoCard

/-- THE SECOND FORM's CARD OF 'laws.FnExactCurvePicture'. -/
def fnExactCurvePictureUptoCard : Claim7 := { stood := { row := fnExactCurvePictureUptoRow, standIns := [], harness := (true, "ed14e3040c159c458b8957ef3c61dac9f918564ce29ca91049505da73b61c38c"), looks := false }, kinds := [], alts := [], laidByText := true, laidKinds := [.data], laidTests := true, laidLooks := .later }
def FnExactCurvePictureUptoCardSaid : Prop := Claim7.holds Tryd.pinned (.plain (OpenSpec.upto fnExactCurvePictureSpec)) fnExactCurvePictureUptoCard

/-- THE SECOND FORM's CARD OF 'laws.FnCurvePictures'. -/
def fnCurvePicturesUptoCard : Claim7 := { stood := { row := fnCurvePicturesUptoRow, standIns := [], harness := (true, "ed14e3040c159c458b8957ef3c61dac9f918564ce29ca91049505da73b61c38c"), looks := false }, kinds := [], alts := [], laidByText := true, laidKinds := [.data, .data], laidTests := true, laidLooks := .later }
def FnCurvePicturesUptoCardSaid : Prop := Claim7.holds Tryd.pinned (.plain (OpenSpec.upto fnCurvePicturesSpec)) fnCurvePicturesUptoCard
end Rows
end Go.Proofs.YtdofeonkgaceeabDoor
