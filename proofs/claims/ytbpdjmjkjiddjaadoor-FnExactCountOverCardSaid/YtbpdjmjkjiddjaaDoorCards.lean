/-
  DERIVED. GIVEN WITH THE SEED: THE CARDS: each row of YtbpdjmjkjiddjaaDoorRows.lean that lists a variable, with what it lists TIED to the program's text (the seventh form; the later family's looks); each row that meets fmt, with fmt's text TOLD by the authors' own Lean function (tested against real Go, not proved from fmt's source: count such statements apart). THE CARD IS WHAT COUNTS. Prove the row's statement (the work); the ties are given (YtbpdjmjkjiddjaaDoorTie.lean); close each card by the builder's one call (the guide's Derived/Test/ToyasCard.lean, 'card_holds'). Laid BY PROGRAM, IN A SANDBOX (cutbox-door.mjs). By AI agents, Wed Nov 11 2026. No macro, syntax, notation, axiom, sorry.
-/
import Derived.Test.YtbpdjmjkjiddjaaDoorRows
import GoSem.ClaimSeven
namespace Go.Proofs.YtbpdjmjkjiddjaaDoor
namespace Rows

/-- THE TIED CARD OF 'laws.FnExactPassesText'. -/
def fnExactPassesTextCard : Claim7 := { stood := { row := fnExactPassesTextRow, standIns := [], harness := (true, "e29b736cf375cf03a576938c8c567ffe2897a5945a61f13fcd17b9d7f8a01de6"), looks := true }, kinds := [], alts := [], laidByText := true, laidKinds := [.data, .data, .data], laidTests := true, laidLooks := .later }
def FnExactPassesTextCardSaid : Prop := Claim7.holds Tryd.pinned (.plain (OpenSpec.ofChange fnExactPassesTextSpec)) fnExactPassesTextCard

/-- THE TIED CARD OF 'laws.FnExactPassesOf'. -/
def fnExactPassesOfCard : Claim7 := { stood := { row := fnExactPassesOfRow, standIns := [], harness := (true, "e29b736cf375cf03a576938c8c567ffe2897a5945a61f13fcd17b9d7f8a01de6"), looks := true }, kinds := [], alts := [], laidByText := true, laidKinds := [.data], laidTests := true, laidLooks := .later }
def FnExactPassesOfCardSaid : Prop := Claim7.holds Tryd.pinned (.plain (OpenSpec.ofChange fnExactPassesOfSpec)) fnExactPassesOfCard

/-- THE TIED CARD OF 'laws.FnExactCountOver'. -/
def fnExactCountOverCard : Claim7 := { stood := { row := fnExactCountOverRow, standIns := [], harness := (true, "e29b736cf375cf03a576938c8c567ffe2897a5945a61f13fcd17b9d7f8a01de6"), looks := true }, kinds := [], alts := [], laidByText := true, laidKinds := [.data], laidTests := true, laidLooks := .later }
def FnExactCountOverCardSaid : Prop := Claim7.holds Tryd.pinned (.plain (OpenSpec.ofChange fnExactCountOverSpec)) fnExactCountOverCard

/-- THE TIED CARD OF 'laws.FnSharedPoints'. -/
def fnSharedPointsCard : Claim7 := { stood := { row := fnSharedPointsRow, standIns := [], harness := (true, "e29b736cf375cf03a576938c8c567ffe2897a5945a61f13fcd17b9d7f8a01de6"), looks := true }, kinds := [], alts := [], laidByText := true, laidKinds := [.data, .data], laidTests := true, laidLooks := .later }
def FnSharedPointsCardSaid : Prop := Claim7.holds Tryd.pinned (.plain (OpenSpec.ofChange fnSharedPointsSpec)) fnSharedPointsCard

/-- THE TIED CARD OF 'laws.FnCrossings'. -/
def fnCrossingsCard : Claim7 := { stood := { row := fnCrossingsRow, standIns := [], harness := (true, "e29b736cf375cf03a576938c8c567ffe2897a5945a61f13fcd17b9d7f8a01de6"), looks := true }, kinds := [], alts := [], laidByText := true, laidKinds := [.data], laidTests := true, laidLooks := .later }
def FnCrossingsCardSaid : Prop := Claim7.holds Tryd.pinned (.plain (OpenSpec.ofChange fnCrossingsSpec)) fnCrossingsCard

/-- THE TIED CARD OF 'laws.FnExactFirstChange'. -/
def fnExactFirstChangeCard : Claim7 := { stood := { row := fnExactFirstChangeRow, standIns := [], harness := (true, "e29b736cf375cf03a576938c8c567ffe2897a5945a61f13fcd17b9d7f8a01de6"), looks := true }, kinds := [], alts := [], laidByText := true, laidKinds := [.data, .data], laidTests := true, laidLooks := .later }
def FnExactFirstChangeCardSaid : Prop := Claim7.holds Tryd.pinned (.plain (OpenSpec.ofChange fnExactFirstChangeSpec)) fnExactFirstChangeCard

/-- THE SECOND FORM's CARD OF 'laws.FnExactPassesText'. -/
def fnExactPassesTextUptoCard : Claim7 := { stood := { row := fnExactPassesTextUptoRow, standIns := [], harness := (true, "e29b736cf375cf03a576938c8c567ffe2897a5945a61f13fcd17b9d7f8a01de6"), looks := true }, kinds := [], alts := [], laidByText := true, laidKinds := [.data, .data, .data], laidTests := true, laidLooks := .later }
def FnExactPassesTextUptoCardSaid : Prop := Claim7.holds Tryd.pinned (.plain (OpenSpec.upto fnExactPassesTextSpec)) fnExactPassesTextUptoCard

/-- THE SECOND FORM's CARD OF 'laws.FnExactPassesOf'. -/
def fnExactPassesOfUptoCard : Claim7 := { stood := { row := fnExactPassesOfUptoRow, standIns := [], harness := (true, "e29b736cf375cf03a576938c8c567ffe2897a5945a61f13fcd17b9d7f8a01de6"), looks := true }, kinds := [], alts := [], laidByText := true, laidKinds := [.data], laidTests := true, laidLooks := .later }
def FnExactPassesOfUptoCardSaid : Prop := Claim7.holds Tryd.pinned (.plain (OpenSpec.upto fnExactPassesOfSpec)) fnExactPassesOfUptoCard

/-- THE SECOND FORM's CARD OF 'laws.FnExactCountOver'. -/
def fnExactCountOverUptoCard : Claim7 := { stood := { row := fnExactCountOverUptoRow, standIns := [], harness := (true, "e29b736cf375cf03a576938c8c567ffe2897a5945a61f13fcd17b9d7f8a01de6"), looks := true }, kinds := [], alts := [], laidByText := true, laidKinds := [.data], laidTests := true, laidLooks := .later }
def FnExactCountOverUptoCardSaid : Prop := Claim7.holds Tryd.pinned (.plain (OpenSpec.upto fnExactCountOverSpec)) fnExactCountOverUptoCard

/-- THE SECOND FORM's CARD OF 'laws.FnSharedPoints'. -/
def fnSharedPointsUptoCard : Claim7 := { stood := { row := fnSharedPointsUptoRow, standIns := [], harness := (true, "e29b736cf375cf03a576938c8c567ffe2897a5945a61f13fcd17b9d7f8a01de6"), looks := true }, kinds := [], alts := [], laidByText := true, laidKinds := [.data, .data], laidTests := true, laidLooks := .later }
def FnSharedPointsUptoCardSaid : Prop := Claim7.holds Tryd.pinned (.plain (OpenSpec.upto fnSharedPointsSpec)) fnSharedPointsUptoCard

/-- THE SECOND FORM's CARD OF 'laws.FnCrossings'. -/
def fnCrossingsUptoCard : Claim7 := { stood := { row := fnCrossingsUptoRow, standIns := [], harness := (true, "e29b736cf375cf03a576938c8c567ffe2897a5945a61f13fcd17b9d7f8a01de6"), looks := true }, kinds := [], alts := [], laidByText := true, laidKinds := [.data], laidTests := true, laidLooks := .later }
def FnCrossingsUptoCardSaid : Prop := Claim7.holds Tryd.pinned (.plain (OpenSpec.upto fnCrossingsSpec)) fnCrossingsUptoCard

/-- THE SECOND FORM's CARD OF 'laws.FnExactFirstChange'. -/
def fnExactFirstChangeUptoCard : Claim7 := { stood := { row := fnExactFirstChangeUptoRow, standIns := [], harness := (true, "e29b736cf375cf03a576938c8c567ffe2897a5945a61f13fcd17b9d7f8a01de6"), looks := true }, kinds := [], alts := [], laidByText := true, laidKinds := [.data, .data], laidTests := true, laidLooks := .later }
def FnExactFirstChangeUptoCardSaid : Prop := Claim7.holds Tryd.pinned (.plain (OpenSpec.upto fnExactFirstChangeSpec)) fnExactFirstChangeUptoCard
end Rows
end Go.Proofs.YtbpdjmjkjiddjaaDoor
