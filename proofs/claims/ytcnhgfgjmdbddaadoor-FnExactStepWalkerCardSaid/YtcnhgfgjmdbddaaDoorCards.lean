/-
  DERIVED. GIVEN WITH THE SEED: THE CARDS: each row of YtcnhgfgjmdbddaaDoorRows.lean that lists a variable, with what it lists TIED to the program's text (the seventh form; the later family's looks); each row that meets fmt, with fmt's text TOLD by the authors' own Lean function (tested against real Go, not proved from fmt's source: count such statements apart). THE CARD IS WHAT COUNTS. Prove the row's statement (the work); the ties are given (YtcnhgfgjmdbddaaDoorTie.lean); close each card by the builder's one call (the guide's Derived/Test/ToyasCard.lean, 'card_holds'). Laid BY PROGRAM, IN A SANDBOX (cutbox-door.mjs). By AI agents, Wed Nov 11 2026. No macro, syntax, notation, axiom, sorry.
-/
import Derived.Test.YtcnhgfgjmdbddaaDoorRows
import GoSem.ClaimSeven
namespace Go.Proofs.YtcnhgfgjmdbddaaDoor
namespace Rows

/-- THE TIED CARD OF 'laws.FnExactStepWalker'. -/
def fnExactStepWalkerCard : Claim7 := { stood := { row := fnExactStepWalkerRow, standIns := [], harness := (true, "52102e064b8d9373a52936e3f9f9b20e32581bc37aba39d4016f5c4748b9eeec"), looks := false }, kinds := [], alts := [], laidByText := true, laidKinds := [.data], laidTests := true, laidLooks := .later }
def FnExactStepWalkerCardSaid : Prop := Claim7.holds Tryd.pinned (.plain (OpenSpec.ofChange fnExactStepWalkerSpec)) fnExactStepWalkerCard

/-- THE TIED CARD OF 'laws.FnExactWalkSteps'. -/
def fnExactWalkStepsCard : Claim7 := { stood := { row := fnExactWalkStepsRow, standIns := [], harness := (true, "52102e064b8d9373a52936e3f9f9b20e32581bc37aba39d4016f5c4748b9eeec"), looks := false }, kinds := [], alts := [], laidByText := true, laidKinds := [.data], laidTests := true, laidLooks := .later }
def FnExactWalkStepsCardSaid : Prop := Claim7.holds Tryd.pinned (.plain (OpenSpec.ofChange fnExactWalkStepsSpec)) fnExactWalkStepsCard

/-- THE TIED CARD OF 'laws.FnSteps'. -/
def fnStepsCard : Claim7 := { stood := { row := fnStepsRow, standIns := [], harness := (true, "52102e064b8d9373a52936e3f9f9b20e32581bc37aba39d4016f5c4748b9eeec"), looks := false }, kinds := [], alts := [], laidByText := true, laidKinds := [.data], laidTests := true, laidLooks := .later }
def FnStepsCardSaid : Prop := Claim7.holds Tryd.pinned (.plain (OpenSpec.ofChange fnStepsSpec)) fnStepsCard

/-- THE SECOND FORM's CARD OF 'laws.FnExactStepWalker'. -/
def fnExactStepWalkerUptoCard : Claim7 := { stood := { row := fnExactStepWalkerUptoRow, standIns := [], harness := (true, "52102e064b8d9373a52936e3f9f9b20e32581bc37aba39d4016f5c4748b9eeec"), looks := false }, kinds := [], alts := [], laidByText := true, laidKinds := [.data], laidTests := true, laidLooks := .later }
def FnExactStepWalkerUptoCardSaid : Prop := Claim7.holds Tryd.pinned (.plain (OpenSpec.upto fnExactStepWalkerSpec)) fnExactStepWalkerUptoCard

/-- THE SECOND FORM's CARD OF 'laws.FnExactWalkSteps'. -/
def fnExactWalkStepsUptoCard : Claim7 := { stood := { row := fnExactWalkStepsUptoRow, standIns := [], harness := (true, "52102e064b8d9373a52936e3f9f9b20e32581bc37aba39d4016f5c4748b9eeec"), looks := false }, kinds := [], alts := [], laidByText := true, laidKinds := [.data], laidTests := true, laidLooks := .later }
def FnExactWalkStepsUptoCardSaid : Prop := Claim7.holds Tryd.pinned (.plain (OpenSpec.upto fnExactWalkStepsSpec)) fnExactWalkStepsUptoCard

/-- THE SECOND FORM's CARD OF 'laws.FnSteps'. -/
def fnStepsUptoCard : Claim7 := { stood := { row := fnStepsUptoRow, standIns := [], harness := (true, "52102e064b8d9373a52936e3f9f9b20e32581bc37aba39d4016f5c4748b9eeec"), looks := false }, kinds := [], alts := [], laidByText := true, laidKinds := [.data], laidTests := true, laidLooks := .later }
def FnStepsUptoCardSaid : Prop := Claim7.holds Tryd.pinned (.plain (OpenSpec.upto fnStepsSpec)) fnStepsUptoCard
end Rows
end Go.Proofs.YtcnhgfgjmdbddaaDoor
