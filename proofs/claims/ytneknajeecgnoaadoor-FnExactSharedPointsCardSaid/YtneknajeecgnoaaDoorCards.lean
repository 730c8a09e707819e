/-
  DERIVED. GIVEN WITH THE SEED: THE CARDS: each row of YtneknajeecgnoaaDoorRows.lean that lists a variable, with what it lists TIED to the program's text (the seventh form; the later family's looks); each row that meets fmt, with fmt's text TOLD by the authors' own Lean function (tested against real Go, not proved from fmt's source: count such statements apart). THE CARD IS WHAT COUNTS. Prove the row's statement (the work); the ties are given (YtneknajeecgnoaaDoorTie.lean); close each card by the builder's one call (the guide's Derived/Test/ToyasCard.lean, 'card_holds'). Laid BY PROGRAM, IN A SANDBOX (cutbox-door.mjs). By AI agents, Wed Nov 11 2026. No macro, syntax, notation, axiom, sorry.
-/
import Derived.Test.YtneknajeecgnoaaDoorRows
import GoSem.ClaimSeven
namespace Go.Proofs.YtneknajeecgnoaaDoor
namespace Rows

/-- THE TIED CARD OF 'laws.FnSharedPoints'. -/
def fnSharedPointsCard : Claim7 := { stood := { row := fnSharedPointsRow, standIns := [], harness := (true, "198990f6f773f300bfbc05cd6f94ab34e3a723ca90af2ba574e99fafdecc1e0e"), looks := false }, kinds := [], alts := [], laidByText := true, laidKinds := [.data, .data], laidTests := true, laidLooks := .later }
def FnSharedPointsCardSaid : Prop := Claim7.holds Tryd.pinned (.plain (OpenSpec.ofChange fnSharedPointsSpec)) fnSharedPointsCard

/-- THE TIED CARD OF 'laws.FnExactCurvePoints'. -/
def fnExactCurvePointsCard : Claim7 := { stood := { row := fnExactCurvePointsRow, standIns := [], harness := (true, "198990f6f773f300bfbc05cd6f94ab34e3a723ca90af2ba574e99fafdecc1e0e"), looks := false }, kinds := [], alts := [], laidByText := true, laidKinds := [.data, .data], laidTests := true, laidLooks := .later }
def FnExactCurvePointsCardSaid : Prop := Claim7.holds Tryd.pinned (.plain (OpenSpec.ofChange fnExactCurvePointsSpec)) fnExactCurvePointsCard

/-- THE TIED CARD OF 'laws.FnExactSharedPoints'. -/
def fnExactSharedPointsCard : Claim7 := { stood := { row := fnExactSharedPointsRow, standIns := [], harness := (true, "198990f6f773f300bfbc05cd6f94ab34e3a723ca90af2ba574e99fafdecc1e0e"), looks := false }, kinds := [], alts := [], laidByText := true, laidKinds := [.data, .data], laidTests := true, laidLooks := .later }
def FnExactSharedPointsCardSaid : Prop := Claim7.holds Tryd.pinned (.plain (OpenSpec.ofChange fnExactSharedPointsSpec)) fnExactSharedPointsCard

/-- THE SECOND FORM's CARD OF 'laws.FnSharedPoints'. -/
def fnSharedPointsUptoCard : Claim7 := { stood := { row := fnSharedPointsUptoRow, standIns := [], harness := (true, "198990f6f773f300bfbc05cd6f94ab34e3a723ca90af2ba574e99fafdecc1e0e"), looks := false }, kinds := [], alts := [], laidByText := true, laidKinds := [.data, .data], laidTests := true, laidLooks := .later }
def FnSharedPointsUptoCardSaid : Prop := Claim7.holds Tryd.pinned (.plain (OpenSpec.upto fnSharedPointsSpec)) fnSharedPointsUptoCard

/-- THE SECOND FORM's CARD OF 'laws.FnExactCurvePoints'. -/
def fnExactCurvePointsUptoCard : Claim7 := { stood := { row := fnExactCurvePointsUptoRow, standIns := [], harness := (true, "198990f6f773f300bfbc05cd6f94ab34e3a723ca90af2ba574e99fafdecc1e0e"), looks := false }, kinds := [], alts := [], laidByText := true, laidKinds := [.data, .data], laidTests := true, laidLooks := .later }
def FnExactCurvePointsUptoCardSaid : Prop := Claim7.holds Tryd.pinned (.plain (OpenSpec.upto fnExactCurvePointsSpec)) fnExactCurvePointsUptoCard

/-- THE SECOND FORM's CARD OF 'laws.FnExactSharedPoints'. -/
def fnExactSharedPointsUptoCard : Claim7 := { stood := { row := fnExactSharedPointsUptoRow, standIns := [], harness := (true, "198990f6f773f300bfbc05cd6f94ab34e3a723ca90af2ba574e99fafdecc1e0e"), looks := false }, kinds := [], alts := [], laidByText := true, laidKinds := [.data, .data], laidTests := true, laidLooks := .later }
def FnExactSharedPointsUptoCardSaid : Prop := Claim7.holds Tryd.pinned (.plain (OpenSpec.upto fnExactSharedPointsSpec)) fnExactSharedPointsUptoCard
end Rows
end Go.Proofs.YtneknajeecgnoaaDoor
