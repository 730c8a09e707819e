/-
  DERIVED. GIVEN WITH THE SEED: THE CARDS: each row of YtdofeonkgaceeaaDoorRows.lean that lists a variable, with what it lists TIED to the program's text (the seventh form; the later family's looks); each row that meets fmt, with fmt's text TOLD by the authors' own Lean function (tested against real Go, not proved from fmt's source: count such statements apart). THE CARD IS WHAT COUNTS. Prove the row's statement (the work); the ties are given (YtdofeonkgaceeaaDoorTie.lean); close each card by the builder's one call (the guide's Derived/Test/ToyasCard.lean, 'card_holds'). Laid BY PROGRAM, IN A SANDBOX (cutbox-door.mjs). By AI agents, Wed Nov 11 2026. No macro, syntax, notation, axiom, sorry.
-/
import Derived.Test.YtdofeonkgaceeaaDoorRows
import GoSem.ClaimSeven
namespace Go.Proofs.YtdofeonkgaceeaaDoor
namespace Rows

/-- THE TIED CARD OF 'laws.FnExactMapPanel'. -/
def fnExactMapPanelCard : Claim7 := { stood := { row := fnExactMapPanelRow, standIns := [], harness := (true, "6b8886ce3c815382af81618b8770fdc8761e9dafda1cf7a7858bf72d72d11381"), looks := false }, kinds := [], alts := [], laidByText := true, laidKinds := [.data], laidTests := true, laidLooks := .later }
def FnExactMapPanelCardSaid : Prop := Claim7.holds Tryd.pinned (.plain (OpenSpec.ofChange fnExactMapPanelSpec)) fnExactMapPanelCard

/-- THE TIED CARD OF 'laws.FnExactSymmetriesOf'. -/
def fnExactSymmetriesOfCard : Claim7 := { stood := { row := fnExactSymmetriesOfRow, standIns := [], harness := (true, "6b8886ce3c815382af81618b8770fdc8761e9dafda1cf7a7858bf72d72d11381"), looks := false }, kinds := [], alts := [], laidByText := true, laidKinds := [.data], laidTests := true, laidLooks := .later }
def FnExactSymmetriesOfCardSaid : Prop := Claim7.holds Tryd.pinned (.plain (OpenSpec.ofChange fnExactSymmetriesOfSpec)) fnExactSymmetriesOfCard

/-- THE TIED CARD OF 'laws.FnExactPointOrbit'. -/
def fnExactPointOrbitCard : Claim7 := { stood := { row := fnExactPointOrbitRow, standIns := [], harness := (true, "6b8886ce3c815382af81618b8770fdc8761e9dafda1cf7a7858bf72d72d11381"), looks := false }, kinds := [], alts := [], laidByText := true, laidKinds := [.data], laidTests := true, laidLooks := .later }
def FnExactPointOrbitCardSaid : Prop := Claim7.holds Tryd.pinned (.plain (OpenSpec.ofChange fnExactPointOrbitSpec)) fnExactPointOrbitCard

/-- THE TIED CARD OF 'laws.FnExactCanonicalPanel'. -/
def fnExactCanonicalPanelCard : Claim7 := { stood := { row := fnExactCanonicalPanelRow, standIns := [], harness := (true, "6b8886ce3c815382af81618b8770fdc8761e9dafda1cf7a7858bf72d72d11381"), looks := false }, kinds := [], alts := [], laidByText := true, laidKinds := [.data], laidTests := true, laidLooks := .later }
def FnExactCanonicalPanelCardSaid : Prop := Claim7.holds Tryd.pinned (.plain (OpenSpec.ofChange fnExactCanonicalPanelSpec)) fnExactCanonicalPanelCard

/-- THE TIED CARD OF 'laws.FnExactAlikePanels'. -/
def fnExactAlikePanelsCard : Claim7 := { stood := { row := fnExactAlikePanelsRow, standIns := [], harness := (true, "6b8886ce3c815382af81618b8770fdc8761e9dafda1cf7a7858bf72d72d11381"), looks := false }, kinds := [], alts := [], laidByText := true, laidKinds := [.data], laidTests := true, laidLooks := .later }
def FnExactAlikePanelsCardSaid : Prop := Claim7.holds Tryd.pinned (.plain (OpenSpec.ofChange fnExactAlikePanelsSpec)) fnExactAlikePanelsCard

/-- THE TIED CARD OF 'laws.FnExactSymmetricPanel'. -/
def fnExactSymmetricPanelCard : Claim7 := { stood := { row := fnExactSymmetricPanelRow, standIns := [], harness := (true, "6b8886ce3c815382af81618b8770fdc8761e9dafda1cf7a7858bf72d72d11381"), looks := false }, kinds := [], alts := [], laidByText := true, laidKinds := [.data], laidTests := true, laidLooks := .later }
def FnExactSymmetricPanelCardSaid : Prop := Claim7.holds Tryd.pinned (.plain (OpenSpec.ofChange fnExactSymmetricPanelSpec)) fnExactSymmetricPanelCard

/-- THE TIED CARD OF 'laws.FnCanonicals'. -/
def fnCanonicalsCard : Claim7 := { stood := { row := fnCanonicalsRow, standIns := [], harness := (true, "6b8886ce3c815382af81618b8770fdc8761e9dafda1cf7a7858bf72d72d11381"), looks := false }, kinds := [], alts := [], laidByText := true, laidKinds := [.data], laidTests := true, laidLooks := .later }
def FnCanonicalsCardSaid : Prop := Claim7.holds Tryd.pinned (.plain (OpenSpec.ofChange fnCanonicalsSpec)) fnCanonicalsCard

/-- THE TIED CARD OF 'laws.FnOrbits'. -/
def fnOrbitsCard : Claim7 := { stood := { row := fnOrbitsRow, standIns := [], harness := (true, "6b8886ce3c815382af81618b8770fdc8761e9dafda1cf7a7858bf72d72d11381"), looks := false }, kinds := [], alts := [], laidByText := true, laidKinds := [.data], laidTests := true, laidLooks := .later }
def FnOrbitsCardSaid : Prop := Claim7.holds Tryd.pinned (.plain (OpenSpec.ofChange fnOrbitsSpec)) fnOrbitsCard

/-- THE SECOND FORM's CARD OF 'laws.FnExactMapPanel'. -/
def fnExactMapPanelUptoCard : Claim7 := { stood := { row := fnExactMapPanelUptoRow, standIns := [], harness := (true, "6b8886ce3c815382af81618b8770fdc8761e9dafda1cf7a7858bf72d72d11381"), looks := false }, kinds := [], alts := [], laidByText := true, laidKinds := [.data], laidTests := true, laidLooks := .later }
def FnExactMapPanelUptoCardSaid : Prop := Claim7.holds Tryd.pinned (.plain (OpenSpec.upto fnExactMapPanelSpec)) fnExactMapPanelUptoCard

/-- THE SECOND FORM's CARD OF 'laws.FnExactSymmetriesOf'. -/
def fnExactSymmetriesOfUptoCard : Claim7 := { stood := { row := fnExactSymmetriesOfUptoRow, standIns := [], harness := (true, "6b8886ce3c815382af81618b8770fdc8761e9dafda1cf7a7858bf72d72d11381"), looks := false }, kinds := [], alts := [], laidByText := true, laidKinds := [.data], laidTests := true, laidLooks := .later }
def FnExactSymmetriesOfUptoCardSaid : Prop := Claim7.holds Tryd.pinned (.plain (OpenSpec.upto fnExactSymmetriesOfSpec)) fnExactSymmetriesOfUptoCard

/-- THE SECOND FORM's CARD OF 'laws.FnExactPointOrbit'. -/
def fnExactPointOrbitUptoCard : Claim7 := { stood := { row := fnExactPointOrbitUptoRow, standIns := [], harness := (true, "6b8886ce3c815382af81618b8770fdc8761e9dafda1cf7a7858bf72d72d11381"), looks := false }, kinds := [], alts := [], laidByText := true, laidKinds := [.data], laidTests := true, laidLooks := .later }
def FnExactPointOrbitUptoCardSaid : Prop := Claim7.holds Tryd.pinned (.plain (OpenSpec.upto fnExactPointOrbitSpec)) fnExactPointOrbitUptoCard

/-- THE SECOND FORM's CARD OF 'laws.FnExactCanonicalPanel'. -/
def fnExactCanonicalPanelUptoCard : Claim7 := { stood := { row := fnExactCanonicalPanelUptoRow, standIns := [], harness := (true, "6b8886ce3c815382af81618b8770fdc8761e9dafda1cf7a7858bf72d72d11381"), looks := false }, kinds := [], alts := [], laidByText := true, laidKinds := [.data], laidTests := true, laidLooks := .later }
def FnExactCanonicalPanelUptoCardSaid : Prop := Claim7.holds Tryd.pinned (.plain (OpenSpec.upto fnExactCanonicalPanelSpec)) fnExactCanonicalPanelUptoCard

/-- THE SECOND FORM's CARD OF 'laws.FnExactAlikePanels'. -/
def fnExactAlikePanelsUptoCard : Claim7 := { stood := { row := fnExactAlikePanelsUptoRow, standIns := [], harness := (true, "6b8886ce3c815382af81618b8770fdc8761e9dafda1cf7a7858bf72d72d11381"), looks := false }, kinds := [], alts := [], laidByText := true, laidKinds := [.data], laidTests := true, laidLooks := .later }
def FnExactAlikePanelsUptoCardSaid : Prop := Claim7.holds Tryd.pinned (.plain (OpenSpec.upto fnExactAlikePanelsSpec)) fnExactAlikePanelsUptoCard

/-- THE SECOND FORM's CARD OF 'laws.FnExactSymmetricPanel'. -/
def fnExactSymmetricPanelUptoCard : Claim7 := { stood := { row := fnExactSymmetricPanelUptoRow, standIns := [], harness := (true, "6b8886ce3c815382af81618b8770fdc8761e9dafda1cf7a7858bf72d72d11381"), looks := false }, kinds := [], alts := [], laidByText := true, laidKinds := [.data], laidTests := true, laidLooks := .later }
def FnExactSymmetricPanelUptoCardSaid : Prop := Claim7.holds Tryd.pinned (.plain (OpenSpec.upto fnExactSymmetricPanelSpec)) fnExactSymmetricPanelUptoCard

/-- THE SECOND FORM's CARD OF 'laws.FnCanonicals'. -/
def fnCanonicalsUptoCard : Claim7 := { stood := { row := fnCanonicalsUptoRow, standIns := [], harness := (true, "6b8886ce3c815382af81618b8770fdc8761e9dafda1cf7a7858bf72d72d11381"), looks := false }, kinds := [], alts := [], laidByText := true, laidKinds := [.data], laidTests := true, laidLooks := .later }
def FnCanonicalsUptoCardSaid : Prop := Claim7.holds Tryd.pinned (.plain (OpenSpec.upto fnCanonicalsSpec)) fnCanonicalsUptoCard

/-- THE SECOND FORM's CARD OF 'laws.FnOrbits'. -/
def fnOrbitsUptoCard : Claim7 := { stood := { row := fnOrbitsUptoRow, standIns := [], harness := (true, "6b8886ce3c815382af81618b8770fdc8761e9dafda1cf7a7858bf72d72d11381"), looks := false }, kinds := [], alts := [], laidByText := true, laidKinds := [.data], laidTests := true, laidLooks := .later }
def FnOrbitsUptoCardSaid : Prop := Claim7.holds Tryd.pinned (.plain (OpenSpec.upto fnOrbitsSpec)) fnOrbitsUptoCard
end Rows
end Go.Proofs.YtdofeonkgaceeaaDoor
