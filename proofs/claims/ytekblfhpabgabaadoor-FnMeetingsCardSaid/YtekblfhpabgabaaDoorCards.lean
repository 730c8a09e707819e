/-
  DERIVED. GIVEN WITH THE SEED: THE CARDS: each row of YtekblfhpabgabaaDoorRows.lean that lists a variable, with what it lists TIED to the program's text (the seventh form; the later family's looks); each row that meets fmt, with fmt's text TOLD by the authors' own Lean function (tested against real Go, not proved from fmt's source: count such statements apart). THE CARD IS WHAT COUNTS. Prove the row's statement (the work); the ties are given (YtekblfhpabgabaaDoorTie.lean); close each card by the builder's one call (the guide's Derived/Test/ToyasCard.lean, 'card_holds'). Laid BY PROGRAM, IN A SANDBOX (cutbox-door.mjs). By AI agents, Wed Nov 11 2026. No macro, syntax, notation, axiom, sorry.
-/
import Derived.Test.YtekblfhpabgabaaDoorRows
import GoSem.ClaimSeven
namespace Go.Proofs.YtekblfhpabgabaaDoor
namespace Rows

/-- THE TIED CARD OF 'laws.FnCurves'. -/
def fnCurvesCard : Claim7 := { stood := { row := fnCurvesRow, standIns := [], harness := (true, "51280cc70aead3e2a3baddb5a6cf1e0dda9ca3ac114b1af0a425b6700a7b9270"), looks := false }, kinds := [], alts := [], goes := true, laidByText := true, laidKinds := [.data], laidTests := true, laidLooks := .later }
def FnCurvesCardSaid : Prop := Claim7.holds Tryd.pinned (.plain (OpenSpec.ofChange fnCurvesSpec)) fnCurvesCard

/-- THE TIED CARD OF 'laws.FnMeetings'. -/
def fnMeetingsCard : Claim7 := { stood := { row := fnMeetingsRow, standIns := [], harness := (true, "51280cc70aead3e2a3baddb5a6cf1e0dda9ca3ac114b1af0a425b6700a7b9270"), looks := false }, kinds := [], alts := [], goes := true, laidByText := true, laidKinds := [.data, .data], laidTests := true, laidLooks := .later }
def FnMeetingsCardSaid : Prop := Claim7.holds Tryd.pinned (.plain (OpenSpec.ofChange fnMeetingsSpec)) fnMeetingsCard

/-- THE TIED CARD OF 'laws.FnExactCurvesOf'. -/
def fnExactCurvesOfCard : Claim7 := { stood := { row := fnExactCurvesOfRow, standIns := [], harness := (true, "51280cc70aead3e2a3baddb5a6cf1e0dda9ca3ac114b1af0a425b6700a7b9270"), looks := false }, kinds := [], alts := [], goes := true, laidByText := true, laidKinds := [.data], laidTests := true, laidLooks := .later }
def FnExactCurvesOfCardSaid : Prop := Claim7.holds Tryd.pinned (.plain (OpenSpec.ofChange fnExactCurvesOfSpec)) fnExactCurvesOfCard

/-- THE TIED CARD OF 'laws.FnExactCurveLengths'. -/
def fnExactCurveLengthsCard : Claim7 := { stood := { row := fnExactCurveLengthsRow, standIns := [], harness := (true, "51280cc70aead3e2a3baddb5a6cf1e0dda9ca3ac114b1af0a425b6700a7b9270"), looks := false }, kinds := [], alts := [], goes := true, laidByText := true, laidKinds := [.data], laidTests := true, laidLooks := .later }
def FnExactCurveLengthsCardSaid : Prop := Claim7.holds Tryd.pinned (.plain (OpenSpec.ofChange fnExactCurveLengthsSpec)) fnExactCurveLengthsCard

/-- THE TIED CARD OF 'laws.FnExactCurvesThrough'. -/
def fnExactCurvesThroughCard : Claim7 := { stood := { row := fnExactCurvesThroughRow, standIns := [], harness := (true, "51280cc70aead3e2a3baddb5a6cf1e0dda9ca3ac114b1af0a425b6700a7b9270"), looks := false }, kinds := [], alts := [], goes := true, laidByText := true, laidKinds := [.data, .data], laidTests := true, laidLooks := .later }
def FnExactCurvesThroughCardSaid : Prop := Claim7.holds Tryd.pinned (.plain (OpenSpec.ofChange fnExactCurvesThroughSpec)) fnExactCurvesThroughCard

/-- THE TIED CARD OF 'laws.FnExactSelfCrossings'. -/
def fnExactSelfCrossingsCard : Claim7 := { stood := { row := fnExactSelfCrossingsRow, standIns := [], harness := (true, "51280cc70aead3e2a3baddb5a6cf1e0dda9ca3ac114b1af0a425b6700a7b9270"), looks := false }, kinds := [], alts := [], goes := true, laidByText := true, laidKinds := [.data, .data], laidTests := true, laidLooks := .later }
def FnExactSelfCrossingsCardSaid : Prop := Claim7.holds Tryd.pinned (.plain (OpenSpec.ofChange fnExactSelfCrossingsSpec)) fnExactSelfCrossingsCard

/-- THE TIED CARD OF 'laws.FnExactCommonCrossings'. -/
def fnExactCommonCrossingsCard : Claim7 := { stood := { row := fnExactCommonCrossingsRow, standIns := [], harness := (true, "51280cc70aead3e2a3baddb5a6cf1e0dda9ca3ac114b1af0a425b6700a7b9270"), looks := false }, kinds := [], alts := [], goes := true, laidByText := true, laidKinds := [.data, .data], laidTests := true, laidLooks := .later }
def FnExactCommonCrossingsCardSaid : Prop := Claim7.holds Tryd.pinned (.plain (OpenSpec.ofChange fnExactCommonCrossingsSpec)) fnExactCommonCrossingsCard

/-- THE TIED CARD OF 'laws.FnExactIsSingle'. -/
def fnExactIsSingleCard : Claim7 := { stood := { row := fnExactIsSingleRow, standIns := [], harness := (true, "51280cc70aead3e2a3baddb5a6cf1e0dda9ca3ac114b1af0a425b6700a7b9270"), looks := false }, kinds := [], alts := [], goes := true, laidByText := true, laidKinds := [.data], laidTests := true, laidLooks := .later }
def FnExactIsSingleCardSaid : Prop := Claim7.holds Tryd.pinned (.plain (OpenSpec.ofChange fnExactIsSingleSpec)) fnExactIsSingleCard

/-- THE TIED CARD OF 'laws.FnExactTouchesOf'. -/
def fnExactTouchesOfCard : Claim7 := { stood := { row := fnExactTouchesOfRow, standIns := [], harness := (true, "51280cc70aead3e2a3baddb5a6cf1e0dda9ca3ac114b1af0a425b6700a7b9270"), looks := false }, kinds := [], alts := [], goes := true, laidByText := true, laidKinds := [.data], laidTests := true, laidLooks := .later }
def FnExactTouchesOfCardSaid : Prop := Claim7.holds Tryd.pinned (.plain (OpenSpec.ofChange fnExactTouchesOfSpec)) fnExactTouchesOfCard

/-- THE SECOND FORM's CARD OF 'laws.FnCurves'. -/
def fnCurvesUptoCard : Claim7 := { stood := { row := fnCurvesUptoRow, standIns := [], harness := (true, "51280cc70aead3e2a3baddb5a6cf1e0dda9ca3ac114b1af0a425b6700a7b9270"), looks := false }, kinds := [], alts := [], goes := true, laidByText := true, laidKinds := [.data], laidTests := true, laidLooks := .later }
def FnCurvesUptoCardSaid : Prop := Claim7.holds Tryd.pinned (.plain (OpenSpec.upto fnCurvesSpec)) fnCurvesUptoCard

/-- THE SECOND FORM's CARD OF 'laws.FnMeetings'. -/
def fnMeetingsUptoCard : Claim7 := { stood := { row := fnMeetingsUptoRow, standIns := [], harness := (true, "51280cc70aead3e2a3baddb5a6cf1e0dda9ca3ac114b1af0a425b6700a7b9270"), looks := false }, kinds := [], alts := [], goes := true, laidByText := true, laidKinds := [.data, .data], laidTests := true, laidLooks := .later }
def FnMeetingsUptoCardSaid : Prop := Claim7.holds Tryd.pinned (.plain (OpenSpec.upto fnMeetingsSpec)) fnMeetingsUptoCard

/-- THE SECOND FORM's CARD OF 'laws.FnExactCurvesOf'. -/
def fnExactCurvesOfUptoCard : Claim7 := { stood := { row := fnExactCurvesOfUptoRow, standIns := [], harness := (true, "51280cc70aead3e2a3baddb5a6cf1e0dda9ca3ac114b1af0a425b6700a7b9270"), looks := false }, kinds := [], alts := [], goes := true, laidByText := true, laidKinds := [.data], laidTests := true, laidLooks := .later }
def FnExactCurvesOfUptoCardSaid : Prop := Claim7.holds Tryd.pinned (.plain (OpenSpec.upto fnExactCurvesOfSpec)) fnExactCurvesOfUptoCard

/-- THE SECOND FORM's CARD OF 'laws.FnExactCurveLengths'. -/
def fnExactCurveLengthsUptoCard : Claim7 := { stood := { row := fnExactCurveLengthsUptoRow, standIns := [], harness := (true, "51280cc70aead3e2a3baddb5a6cf1e0dda9ca3ac114b1af0a425b6700a7b9270"), looks := false }, kinds := [], alts := [], goes := true, laidByText := true, laidKinds := [.data], laidTests := true, laidLooks := .later }
def FnExactCurveLengthsUptoCardSaid : Prop := Claim7.holds Tryd.pinned (.plain (OpenSpec.upto fnExactCurveLengthsSpec)) fnExactCurveLengthsUptoCard

/-- THE SECOND FORM's CARD OF 'laws.FnExactCurvesThrough'. -/
def fnExactCurvesThroughUptoCard : Claim7 := { stood := { row := fnExactCurvesThroughUptoRow, standIns := [], harness := (true, "51280cc70aead3e2a3baddb5a6cf1e0dda9ca3ac114b1af0a425b6700a7b9270"), looks := false }, kinds := [], alts := [], goes := true, laidByText := true, laidKinds := [.data, .data], laidTests := true, laidLooks := .later }
def FnExactCurvesThroughUptoCardSaid : Prop := Claim7.holds Tryd.pinned (.plain (OpenSpec.upto fnExactCurvesThroughSpec)) fnExactCurvesThroughUptoCard

/-- THE SECOND FORM's CARD OF 'laws.FnExactSelfCrossings'. -/
def fnExactSelfCrossingsUptoCard : Claim7 := { stood := { row := fnExactSelfCrossingsUptoRow, standIns := [], harness := (true, "51280cc70aead3e2a3baddb5a6cf1e0dda9ca3ac114b1af0a425b6700a7b9270"), looks := false }, kinds := [], alts := [], goes := true, laidByText := true, laidKinds := [.data, .data], laidTests := true, laidLooks := .later }
def FnExactSelfCrossingsUptoCardSaid : Prop := Claim7.holds Tryd.pinned (.plain (OpenSpec.upto fnExactSelfCrossingsSpec)) fnExactSelfCrossingsUptoCard

/-- THE SECOND FORM's CARD OF 'laws.FnExactCommonCrossings'. -/
def fnExactCommonCrossingsUptoCard : Claim7 := { stood := { row := fnExactCommonCrossingsUptoRow, standIns := [], harness := (true, "51280cc70aead3e2a3baddb5a6cf1e0dda9ca3ac114b1af0a425b6700a7b9270"), looks := false }, kinds := [], alts := [], goes := true, laidByText := true, laidKinds := [.data, .data], laidTests := true, laidLooks := .later }
def FnExactCommonCrossingsUptoCardSaid : Prop := Claim7.holds Tryd.pinned (.plain (OpenSpec.upto fnExactCommonCrossingsSpec)) fnExactCommonCrossingsUptoCard

/-- THE SECOND FORM's CARD OF 'laws.FnExactIsSingle'. -/
def fnExactIsSingleUptoCard : Claim7 := { stood := { row := fnExactIsSingleUptoRow, standIns := [], harness := (true, "51280cc70aead3e2a3baddb5a6cf1e0dda9ca3ac114b1af0a425b6700a7b9270"), looks := false }, kinds := [], alts := [], goes := true, laidByText := true, laidKinds := [.data], laidTests := true, laidLooks := .later }
def FnExactIsSingleUptoCardSaid : Prop := Claim7.holds Tryd.pinned (.plain (OpenSpec.upto fnExactIsSingleSpec)) fnExactIsSingleUptoCard

/-- THE SECOND FORM's CARD OF 'laws.FnExactTouchesOf'. -/
def fnExactTouchesOfUptoCard : Claim7 := { stood := { row := fnExactTouchesOfUptoRow, standIns := [], harness := (true, "51280cc70aead3e2a3baddb5a6cf1e0dda9ca3ac114b1af0a425b6700a7b9270"), looks := false }, kinds := [], alts := [], goes := true, laidByText := true, laidKinds := [.data], laidTests := true, laidLooks := .later }
def FnExactTouchesOfUptoCardSaid : Prop := Claim7.holds Tryd.pinned (.plain (OpenSpec.upto fnExactTouchesOfSpec)) fnExactTouchesOfUptoCard
end Rows
end Go.Proofs.YtekblfhpabgabaaDoor
