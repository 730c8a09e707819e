/-
  DERIVED. GIVEN WITH THE SEED: THE CARDS: each row of YtdofeonkgaceeacDoorRows.lean that lists a variable, with what it lists TIED to the program's text (the seventh form; the later family's looks); each row that meets fmt, with fmt's text TOLD by the authors' own Lean function (tested against real Go, not proved from fmt's source: count such statements apart). THE CARD IS WHAT COUNTS. Prove the row's statement (the work); the ties are given (YtdofeonkgaceeacDoorTie.lean); close each card by the builder's one call (the guide's Derived/Test/ToyasCard.lean, 'card_holds'). Laid BY PROGRAM, IN A SANDBOX (cutbox-door.mjs). By AI agents, Wed Nov 11 2026. No macro, syntax, notation, axiom, sorry.
-/
import Derived.Test.YtdofeonkgaceeacDoorRows
import GoSem.ClaimSeven
namespace Go.Proofs.YtdofeonkgaceeacDoor
namespace Rows

/-- THE TIED CARD OF 'laws.FnExactSymName'. -/
def fnExactSymNameCard : Claim7 := { stood := { row := fnExactSymNameRow, standIns := [], harness := (true, "2d9836d2ac748255c4b17badb7e8093f8b759cbe20fc3fcfbac29a84ff6ec6cb"), looks := true }, kinds := [], alts := [], laidByText := true, laidKinds := [.data], laidTests := true, laidLooks := .later }
def FnExactSymNameCardSaid : Prop := Claim7.holds Tryd.pinned (.plain (OpenSpec.ofChange fnExactSymNameSpec)) fnExactSymNameCard

/-- THE TIED CARD OF 'laws.FnExactPictureFault'. -/
def fnExactPictureFaultCard : Claim7 := { stood := { row := fnExactPictureFaultRow, standIns := [], harness := (true, "2d9836d2ac748255c4b17badb7e8093f8b759cbe20fc3fcfbac29a84ff6ec6cb"), looks := true }, kinds := [], alts := [], laidByText := true, laidKinds := [.handle, .sentinel, .sentinel, .sentinel, .sentinel, .sentinel], laidTests := true, laidLooks := .later }
def FnExactPictureFaultCardSaid : Prop := Claim7.holds Tryd.pinned (.plain (OpenSpec.ofChange fnExactPictureFaultSpec)) fnExactPictureFaultCard

/-- THE TIED CARD OF 'laws.FnExactReadPicture'. -/
def fnExactReadPictureCard : Claim7 := { stood := { row := fnExactReadPictureRow, standIns := [], harness := (true, "2d9836d2ac748255c4b17badb7e8093f8b759cbe20fc3fcfbac29a84ff6ec6cb"), looks := true }, kinds := [], alts := [], laidByText := true, laidKinds := [.sentinel, .sentinel, .sentinel, .sentinel, .sentinel], laidTests := true, laidLooks := .later }
def FnExactReadPictureCardSaid : Prop := Claim7.holds Tryd.pinned (.plain (OpenSpec.ofChange fnExactReadPictureSpec)) fnExactReadPictureCard

/-- THE TIED CARD OF 'laws.FnSymmetries'. -/
def fnSymmetriesCard : Claim7 := { stood := { row := fnSymmetriesRow, standIns := [], harness := (true, "2d9836d2ac748255c4b17badb7e8093f8b759cbe20fc3fcfbac29a84ff6ec6cb"), looks := true }, kinds := [], alts := [], laidByText := true, laidKinds := [.data, .data, .data], laidTests := true, laidLooks := .later }
def FnSymmetriesCardSaid : Prop := Claim7.holds Tryd.pinned (.plain (OpenSpec.ofChange fnSymmetriesSpec)) fnSymmetriesCard

/-- THE SECOND FORM's CARD OF 'laws.FnExactSymName'. -/
def fnExactSymNameUptoCard : Claim7 := { stood := { row := fnExactSymNameUptoRow, standIns := [], harness := (true, "2d9836d2ac748255c4b17badb7e8093f8b759cbe20fc3fcfbac29a84ff6ec6cb"), looks := true }, kinds := [], alts := [], laidByText := true, laidKinds := [.data], laidTests := true, laidLooks := .later }
def FnExactSymNameUptoCardSaid : Prop := Claim7.holds Tryd.pinned (.plain (OpenSpec.upto fnExactSymNameSpec)) fnExactSymNameUptoCard

/-- THE SECOND FORM's CARD OF 'laws.FnExactPictureFault'. -/
def fnExactPictureFaultUptoCard : Claim7 := { stood := { row := fnExactPictureFaultUptoRow, standIns := [], harness := (true, "2d9836d2ac748255c4b17badb7e8093f8b759cbe20fc3fcfbac29a84ff6ec6cb"), looks := true }, kinds := [], alts := [], laidByText := true, laidKinds := [.handle, .sentinel, .sentinel, .sentinel, .sentinel, .sentinel], laidTests := true, laidLooks := .later }
def FnExactPictureFaultUptoCardSaid : Prop := Claim7.holds Tryd.pinned (.plain (OpenSpec.upto fnExactPictureFaultSpec)) fnExactPictureFaultUptoCard

/-- THE SECOND FORM's CARD OF 'laws.FnExactReadPicture'. -/
def fnExactReadPictureUptoCard : Claim7 := { stood := { row := fnExactReadPictureUptoRow, standIns := [], harness := (true, "2d9836d2ac748255c4b17badb7e8093f8b759cbe20fc3fcfbac29a84ff6ec6cb"), looks := true }, kinds := [], alts := [], laidByText := true, laidKinds := [.sentinel, .sentinel, .sentinel, .sentinel, .sentinel], laidTests := true, laidLooks := .later }
def FnExactReadPictureUptoCardSaid : Prop := Claim7.holds Tryd.pinned (.plain (OpenSpec.upto fnExactReadPictureSpec)) fnExactReadPictureUptoCard

/-- THE SECOND FORM's CARD OF 'laws.FnSymmetries'. -/
def fnSymmetriesUptoCard : Claim7 := { stood := { row := fnSymmetriesUptoRow, standIns := [], harness := (true, "2d9836d2ac748255c4b17badb7e8093f8b759cbe20fc3fcfbac29a84ff6ec6cb"), looks := true }, kinds := [], alts := [], laidByText := true, laidKinds := [.data, .data, .data], laidTests := true, laidLooks := .later }
def FnSymmetriesUptoCardSaid : Prop := Claim7.holds Tryd.pinned (.plain (OpenSpec.upto fnSymmetriesSpec)) fnSymmetriesUptoCard
end Rows
end Go.Proofs.YtdofeonkgaceeacDoor
