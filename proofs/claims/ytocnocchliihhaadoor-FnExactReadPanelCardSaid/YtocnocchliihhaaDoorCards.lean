/-
  DERIVED. GIVEN WITH THE SEED: THE CARDS: each row of YtocnocchliihhaaDoorRows.lean that lists a variable, with what it lists TIED to the program's text (the seventh form; the later family's looks); each row that meets fmt, with fmt's text TOLD by the authors' own Lean function (tested against real Go, not proved from fmt's source: count such statements apart). THE CARD IS WHAT COUNTS. Prove the row's statement (the work); the ties are given (YtocnocchliihhaaDoorTie.lean); close each card by the builder's one call (the guide's Derived/Test/ToyasCard.lean, 'card_holds'). Laid BY PROGRAM, IN A SANDBOX (cutbox-door.mjs). By AI agents, Wed Nov 11 2026. No macro, syntax, notation, axiom, sorry.
-/
import Derived.Test.YtocnocchliihhaaDoorRows
import GoSem.ClaimSeven
namespace Go.Proofs.YtocnocchliihhaaDoor
namespace Rows

/-- THE TIED CARD OF 'laws.FnCurvePictures'. -/
def fnCurvePicturesCard : Claim7 := { stood := { row := fnCurvePicturesRow, standIns := [], harness := (true, "0642ba17a461b461d4ce969fd89158207599b9939df6ddccb4d8a4b5e28ad9e1"), looks := true }, kinds := [], alts := [], laidByText := true, laidKinds := [.data, .data], laidTests := true, laidLooks := .later }
def FnCurvePicturesCardSaid : Prop := Claim7.holds Tryd.pinned (.plain (OpenSpec.ofChange fnCurvePicturesSpec)) fnCurvePicturesCard

/-- THE TIED CARD OF 'laws.FnExactPictureFault'. -/
def fnExactPictureFaultCard : Claim7 := { stood := { row := fnExactPictureFaultRow, standIns := [], harness := (true, "0642ba17a461b461d4ce969fd89158207599b9939df6ddccb4d8a4b5e28ad9e1"), looks := true }, kinds := [], alts := [], laidByText := true, laidKinds := [.handle, .sentinel, .sentinel, .sentinel, .sentinel, .sentinel], laidTests := true, laidLooks := .later }
def FnExactPictureFaultCardSaid : Prop := Claim7.holds Tryd.pinned (.plain (OpenSpec.ofChange fnExactPictureFaultSpec)) fnExactPictureFaultCard

/-- THE TIED CARD OF 'laws.FnExactPictureFaultName'. -/
def fnExactPictureFaultNameCard : Claim7 := { stood := { row := fnExactPictureFaultNameRow, standIns := [], harness := (true, "0642ba17a461b461d4ce969fd89158207599b9939df6ddccb4d8a4b5e28ad9e1"), looks := true }, kinds := [], alts := [], laidByText := true, laidKinds := [.data], laidTests := true, laidLooks := .later }
def FnExactPictureFaultNameCardSaid : Prop := Claim7.holds Tryd.pinned (.plain (OpenSpec.ofChange fnExactPictureFaultNameSpec)) fnExactPictureFaultNameCard

/-- THE TIED CARD OF 'laws.FnExactReadPicture'. -/
def fnExactReadPictureCard : Claim7 := { stood := { row := fnExactReadPictureRow, standIns := [], harness := (true, "0642ba17a461b461d4ce969fd89158207599b9939df6ddccb4d8a4b5e28ad9e1"), looks := true }, kinds := [], alts := [], laidByText := true, laidKinds := [.sentinel, .sentinel, .sentinel, .sentinel, .sentinel], laidTests := true, laidLooks := .later }
def FnExactReadPictureCardSaid : Prop := Claim7.holds Tryd.pinned (.plain (OpenSpec.ofChange fnExactReadPictureSpec)) fnExactReadPictureCard

/-- THE TIED CARD OF 'laws.FnExactCurvePicture'. -/
def fnExactCurvePictureCard : Claim7 := { stood := { row := fnExactCurvePictureRow, standIns := [], harness := (true, "0642ba17a461b461d4ce969fd89158207599b9939df6ddccb4d8a4b5e28ad9e1"), looks := true }, kinds := [], alts := [], laidByText := true, laidKinds := [.data], laidTests := true, laidLooks := .later }
def FnExactCurvePictureCardSaid : Prop := Claim7.holds Tryd.pinned (.plain (OpenSpec.ofChange fnExactCurvePictureSpec)) fnExactCurvePictureCard

/-- THE TIED CARD OF 'laws.FnExactPanelText'. -/
def fnExactPanelTextCard : Claim7 := { stood := { row := fnExactPanelTextRow, standIns := [], harness := (true, "0642ba17a461b461d4ce969fd89158207599b9939df6ddccb4d8a4b5e28ad9e1"), looks := true }, kinds := [], alts := [], laidByText := true, laidKinds := [.data, .data, .data], laidTests := true, laidLooks := .later }
def FnExactPanelTextCardSaid : Prop := Claim7.holds Tryd.pinned (.plain (OpenSpec.ofChange fnExactPanelTextSpec)) fnExactPanelTextCard

/-- THE TIED CARD OF 'laws.FnExactReadPanel'. -/
def fnExactReadPanelCard : Claim7 := { stood := { row := fnExactReadPanelRow, standIns := [], harness := (true, "0642ba17a461b461d4ce969fd89158207599b9939df6ddccb4d8a4b5e28ad9e1"), looks := true }, kinds := [], alts := [], laidByText := true, laidKinds := [.data, .data, .data, .sentinel, .sentinel], laidTests := true, laidLooks := .later }
def FnExactReadPanelCardSaid : Prop := Claim7.holds Tryd.pinned (.plain (OpenSpec.ofChange fnExactReadPanelSpec)) fnExactReadPanelCard

/-- THE SECOND FORM's CARD OF 'laws.FnCurvePictures'. -/
def fnCurvePicturesUptoCard : Claim7 := { stood := { row := fnCurvePicturesUptoRow, standIns := [], harness := (true, "0642ba17a461b461d4ce969fd89158207599b9939df6ddccb4d8a4b5e28ad9e1"), looks := true }, kinds := [], alts := [], laidByText := true, laidKinds := [.data, .data], laidTests := true, laidLooks := .later }
def FnCurvePicturesUptoCardSaid : Prop := Claim7.holds Tryd.pinned (.plain (OpenSpec.upto fnCurvePicturesSpec)) fnCurvePicturesUptoCard

/-- THE SECOND FORM's CARD OF 'laws.FnExactPictureFault'. -/
def fnExactPictureFaultUptoCard : Claim7 := { stood := { row := fnExactPictureFaultUptoRow, standIns := [], harness := (true, "0642ba17a461b461d4ce969fd89158207599b9939df6ddccb4d8a4b5e28ad9e1"), looks := true }, kinds := [], alts := [], laidByText := true, laidKinds := [.handle, .sentinel, .sentinel, .sentinel, .sentinel, .sentinel], laidTests := true, laidLooks := .later }
def FnExactPictureFaultUptoCardSaid : Prop := Claim7.holds Tryd.pinned (.plain (OpenSpec.upto fnExactPictureFaultSpec)) fnExactPictureFaultUptoCard

/-- THE SECOND FORM's CARD OF 'laws.FnExactPictureFaultName'. -/
def fnExactPictureFaultNameUptoCard : Claim7 := { stood := { row := fnExactPictureFaultNameUptoRow, standIns := [], harness := (true, "0642ba17a461b461d4ce969fd89158207599b9939df6ddccb4d8a4b5e28ad9e1"), looks := true }, kinds := [], alts := [], laidByText := true, laidKinds := [.data], laidTests := true, laidLooks := .later }
def FnExactPictureFaultNameUptoCardSaid : Prop := Claim7.holds Tryd.pinned (.plain (OpenSpec.upto fnExactPictureFaultNameSpec)) fnExactPictureFaultNameUptoCard

/-- THE SECOND FORM's CARD OF 'laws.FnExactReadPicture'. -/
def fnExactReadPictureUptoCard : Claim7 := { stood := { row := fnExactReadPictureUptoRow, standIns := [], harness := (true, "0642ba17a461b461d4ce969fd89158207599b9939df6ddccb4d8a4b5e28ad9e1"), looks := true }, kinds := [], alts := [], laidByText := true, laidKinds := [.sentinel, .sentinel, .sentinel, .sentinel, .sentinel], laidTests := true, laidLooks := .later }
def FnExactReadPictureUptoCardSaid : Prop := Claim7.holds Tryd.pinned (.plain (OpenSpec.upto fnExactReadPictureSpec)) fnExactReadPictureUptoCard

/-- THE SECOND FORM's CARD OF 'laws.FnExactCurvePicture'. -/
def fnExactCurvePictureUptoCard : Claim7 := { stood := { row := fnExactCurvePictureUptoRow, standIns := [], harness := (true, "0642ba17a461b461d4ce969fd89158207599b9939df6ddccb4d8a4b5e28ad9e1"), looks := true }, kinds := [], alts := [], laidByText := true, laidKinds := [.data], laidTests := true, laidLooks := .later }
def FnExactCurvePictureUptoCardSaid : Prop := Claim7.holds Tryd.pinned (.plain (OpenSpec.upto fnExactCurvePictureSpec)) fnExactCurvePictureUptoCard

/-- THE SECOND FORM's CARD OF 'laws.FnExactPanelText'. -/
def fnExactPanelTextUptoCard : Claim7 := { stood := { row := fnExactPanelTextUptoRow, standIns := [], harness := (true, "0642ba17a461b461d4ce969fd89158207599b9939df6ddccb4d8a4b5e28ad9e1"), looks := true }, kinds := [], alts := [], laidByText := true, laidKinds := [.data, .data, .data], laidTests := true, laidLooks := .later }
def FnExactPanelTextUptoCardSaid : Prop := Claim7.holds Tryd.pinned (.plain (OpenSpec.upto fnExactPanelTextSpec)) fnExactPanelTextUptoCard

/-- THE SECOND FORM's CARD OF 'laws.FnExactReadPanel'. -/
def fnExactReadPanelUptoCard : Claim7 := { stood := { row := fnExactReadPanelUptoRow, standIns := [], harness := (true, "0642ba17a461b461d4ce969fd89158207599b9939df6ddccb4d8a4b5e28ad9e1"), looks := true }, kinds := [], alts := [], laidByText := true, laidKinds := [.data, .data, .data, .sentinel, .sentinel], laidTests := true, laidLooks := .later }
def FnExactReadPanelUptoCardSaid : Prop := Claim7.holds Tryd.pinned (.plain (OpenSpec.upto fnExactReadPanelSpec)) fnExactReadPanelUptoCard
end Rows
end Go.Proofs.YtocnocchliihhaaDoor
