/-
  DERIVED. GIVEN WITH THE SEED: THE CARDS: each row of YtpkajonnopmciaaDoorRows.lean that lists a variable, with what it lists TIED to the program's text (the seventh form; the later family's looks); each row that meets fmt, with fmt's text TOLD by the authors' own Lean function (tested against real Go, not proved from fmt's source: count such statements apart). THE CARD IS WHAT COUNTS. Prove the row's statement (the work); the ties are given (YtpkajonnopmciaaDoorTie.lean); close each card by the builder's one call (the guide's Derived/Test/ToyasCard.lean, 'card_holds'). Laid BY PROGRAM, IN A SANDBOX (cutbox-door.mjs). By AI agents, Wed Nov 11 2026. No macro, syntax, notation, axiom, sorry.
-/
import Derived.Test.YtpkajonnopmciaaDoorRows
import GoSem.ClaimSeven
namespace Go.Proofs.YtpkajonnopmciaaDoor
namespace Rows

/-- THE TIED CARD OF 'laws.FnExactPairingText'. -/
def fnExactPairingTextCard : Claim7 := { stood := { row := fnExactPairingTextRow, standIns := [], harness := (true, "f9b574c5c2842b9eecacc1dbbc7a2b41859982dff66e6a62403ecfcc2ab94356"), looks := false }, kinds := [], alts := [], laidByText := true, laidKinds := [.data, .data, .data], laidTests := true, laidLooks := .later }
def FnExactPairingTextCardSaid : Prop := Claim7.holds Tryd.pinned (.plain (OpenSpec.ofChange fnExactPairingTextSpec)) fnExactPairingTextCard

/-- THE TIED CARD OF 'laws.FnLoops'. -/
def fnLoopsCard : Claim7 := { stood := { row := fnLoopsRow, standIns := [], harness := (true, "f9b574c5c2842b9eecacc1dbbc7a2b41859982dff66e6a62403ecfcc2ab94356"), looks := false }, kinds := [], alts := [], laidByText := true, laidKinds := [.data, .data, .data], laidTests := true, laidLooks := .later }
def FnLoopsCardSaid : Prop := Claim7.holds Tryd.pinned (.plain (OpenSpec.ofChange fnLoopsSpec)) fnLoopsCard

/-- THE SECOND FORM's CARD OF 'laws.FnExactPairingText'. -/
def fnExactPairingTextUptoCard : Claim7 := { stood := { row := fnExactPairingTextUptoRow, standIns := [], harness := (true, "f9b574c5c2842b9eecacc1dbbc7a2b41859982dff66e6a62403ecfcc2ab94356"), looks := false }, kinds := [], alts := [], laidByText := true, laidKinds := [.data, .data, .data], laidTests := true, laidLooks := .later }
def FnExactPairingTextUptoCardSaid : Prop := Claim7.holds Tryd.pinned (.plain (OpenSpec.upto fnExactPairingTextSpec)) fnExactPairingTextUptoCard

/-- THE SECOND FORM's CARD OF 'laws.FnLoops'. -/
def fnLoopsUptoCard : Claim7 := { stood := { row := fnLoopsUptoRow, standIns := [], harness := (true, "f9b574c5c2842b9eecacc1dbbc7a2b41859982dff66e6a62403ecfcc2ab94356"), looks := false }, kinds := [], alts := [], laidByText := true, laidKinds := [.data, .data, .data], laidTests := true, laidLooks := .later }
def FnLoopsUptoCardSaid : Prop := Claim7.holds Tryd.pinned (.plain (OpenSpec.upto fnLoopsSpec)) fnLoopsUptoCard
end Rows
end Go.Proofs.YtpkajonnopmciaaDoor
