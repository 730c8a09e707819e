/-
  DERIVED. GIVEN WITH THE SEED: THE CARDS: each row of YtjgclemfehfgiaaDoorRows.lean that lists a variable, with what it lists TIED to the program's text (the seventh form; the later family's looks); each row that meets fmt, with fmt's text TOLD by the authors' own Lean function (tested against real Go, not proved from fmt's source: count such statements apart). THE CARD IS WHAT COUNTS. Prove the row's statement (the work); the ties are given (YtjgclemfehfgiaaDoorTie.lean); close each card by the builder's one call (the guide's Derived/Test/ToyasCard.lean, 'card_holds'). Laid BY PROGRAM, IN A SANDBOX (cutbox-door.mjs). By AI agents, Wed Nov 11 2026. No macro, syntax, notation, axiom, sorry.
-/
import Derived.Test.YtjgclemfehfgiaaDoorRows
import GoSem.ClaimSeven
namespace Go.Proofs.YtjgclemfehfgiaaDoor
namespace Rows

/-- THE TIED CARD OF 'laws.FnExactEffectOf'. -/
def fnExactEffectOfCard : Claim7 := { stood := { row := fnExactEffectOfRow, standIns := [], harness := (true, "eb4da50d850a257783d974bdc6a7edce19d5a0486dd839d208f0f4df3ea15905"), looks := false }, kinds := [], alts := [], laidByText := true, laidKinds := [.data, .data], laidTests := true, laidLooks := .later }
def FnExactEffectOfCardSaid : Prop := Claim7.holds Tryd.pinned (.plain (OpenSpec.ofChange fnExactEffectOfSpec)) fnExactEffectOfCard

/-- THE TIED CARD OF 'laws.FnExactEffectsAt'. -/
def fnExactEffectsAtCard : Claim7 := { stood := { row := fnExactEffectsAtRow, standIns := [], harness := (true, "eb4da50d850a257783d974bdc6a7edce19d5a0486dd839d208f0f4df3ea15905"), looks := false }, kinds := [], alts := [], laidByText := true, laidKinds := [.data, .data], laidTests := true, laidLooks := .later }
def FnExactEffectsAtCardSaid : Prop := Claim7.holds Tryd.pinned (.plain (OpenSpec.ofChange fnExactEffectsAtSpec)) fnExactEffectsAtCard

/-- THE TIED CARD OF 'laws.FnExactJoiningPoints'. -/
def fnExactJoiningPointsCard : Claim7 := { stood := { row := fnExactJoiningPointsRow, standIns := [], harness := (true, "eb4da50d850a257783d974bdc6a7edce19d5a0486dd839d208f0f4df3ea15905"), looks := false }, kinds := [], alts := [], laidByText := true, laidKinds := [.data, .data], laidTests := true, laidLooks := .later }
def FnExactJoiningPointsCardSaid : Prop := Claim7.holds Tryd.pinned (.plain (OpenSpec.ofChange fnExactJoiningPointsSpec)) fnExactJoiningPointsCard

/-- THE TIED CARD OF 'laws.FnExactDividingPoints'. -/
def fnExactDividingPointsCard : Claim7 := { stood := { row := fnExactDividingPointsRow, standIns := [], harness := (true, "eb4da50d850a257783d974bdc6a7edce19d5a0486dd839d208f0f4df3ea15905"), looks := false }, kinds := [], alts := [], laidByText := true, laidKinds := [.data, .data], laidTests := true, laidLooks := .later }
def FnExactDividingPointsCardSaid : Prop := Claim7.holds Tryd.pinned (.plain (OpenSpec.ofChange fnExactDividingPointsSpec)) fnExactDividingPointsCard

/-- THE TIED CARD OF 'laws.FnExactPairsOf'. -/
def fnExactPairsOfCard : Claim7 := { stood := { row := fnExactPairsOfRow, standIns := [], harness := (true, "eb4da50d850a257783d974bdc6a7edce19d5a0486dd839d208f0f4df3ea15905"), looks := false }, kinds := [], alts := [], laidByText := true, laidKinds := [.data, .data], laidTests := true, laidLooks := .later }
def FnExactPairsOfCardSaid : Prop := Claim7.holds Tryd.pinned (.plain (OpenSpec.ofChange fnExactPairsOfSpec)) fnExactPairsOfCard

/-- THE TIED CARD OF 'laws.FnExactJoinPanel'. -/
def fnExactJoinPanelCard : Claim7 := { stood := { row := fnExactJoinPanelRow, standIns := [], harness := (true, "eb4da50d850a257783d974bdc6a7edce19d5a0486dd839d208f0f4df3ea15905"), looks := false }, kinds := [], alts := [], laidByText := true, laidKinds := [.data, .data], laidTests := true, laidLooks := .later }
def FnExactJoinPanelCardSaid : Prop := Claim7.holds Tryd.pinned (.plain (OpenSpec.ofChange fnExactJoinPanelSpec)) fnExactJoinPanelCard

/-- THE TIED CARD OF 'laws.FnSharedPoints'. -/
def fnSharedPointsCard : Claim7 := { stood := { row := fnSharedPointsRow, standIns := [], harness := (true, "eb4da50d850a257783d974bdc6a7edce19d5a0486dd839d208f0f4df3ea15905"), looks := false }, kinds := [], alts := [], laidByText := true, laidKinds := [.data, .data], laidTests := true, laidLooks := .later }
def FnSharedPointsCardSaid : Prop := Claim7.holds Tryd.pinned (.plain (OpenSpec.ofChange fnSharedPointsSpec)) fnSharedPointsCard

/-- THE TIED CARD OF 'laws.FnExactEditsText'. -/
def fnExactEditsTextCard : Claim7 := { stood := { row := fnExactEditsTextRow, standIns := [], harness := (true, "eb4da50d850a257783d974bdc6a7edce19d5a0486dd839d208f0f4df3ea15905"), looks := false }, kinds := [], alts := [], laidByText := true, laidKinds := [.data, .data, .data], laidTests := true, laidLooks := .later }
def FnExactEditsTextCardSaid : Prop := Claim7.holds Tryd.pinned (.plain (OpenSpec.ofChange fnExactEditsTextSpec)) fnExactEditsTextCard

/-- THE SECOND FORM's CARD OF 'laws.FnExactEffectOf'. -/
def fnExactEffectOfUptoCard : Claim7 := { stood := { row := fnExactEffectOfUptoRow, standIns := [], harness := (true, "eb4da50d850a257783d974bdc6a7edce19d5a0486dd839d208f0f4df3ea15905"), looks := false }, kinds := [], alts := [], laidByText := true, laidKinds := [.data, .data], laidTests := true, laidLooks := .later }
def FnExactEffectOfUptoCardSaid : Prop := Claim7.holds Tryd.pinned (.plain (OpenSpec.upto fnExactEffectOfSpec)) fnExactEffectOfUptoCard

/-- THE SECOND FORM's CARD OF 'laws.FnExactEffectsAt'. -/
def fnExactEffectsAtUptoCard : Claim7 := { stood := { row := fnExactEffectsAtUptoRow, standIns := [], harness := (true, "eb4da50d850a257783d974bdc6a7edce19d5a0486dd839d208f0f4df3ea15905"), looks := false }, kinds := [], alts := [], laidByText := true, laidKinds := [.data, .data], laidTests := true, laidLooks := .later }
def FnExactEffectsAtUptoCardSaid : Prop := Claim7.holds Tryd.pinned (.plain (OpenSpec.upto fnExactEffectsAtSpec)) fnExactEffectsAtUptoCard

/-- THE SECOND FORM's CARD OF 'laws.FnExactJoiningPoints'. -/
def fnExactJoiningPointsUptoCard : Claim7 := { stood := { row := fnExactJoiningPointsUptoRow, standIns := [], harness := (true, "eb4da50d850a257783d974bdc6a7edce19d5a0486dd839d208f0f4df3ea15905"), looks := false }, kinds := [], alts := [], laidByText := true, laidKinds := [.data, .data], laidTests := true, laidLooks := .later }
def FnExactJoiningPointsUptoCardSaid : Prop := Claim7.holds Tryd.pinned (.plain (OpenSpec.upto fnExactJoiningPointsSpec)) fnExactJoiningPointsUptoCard

/-- THE SECOND FORM's CARD OF 'laws.FnExactDividingPoints'. -/
def fnExactDividingPointsUptoCard : Claim7 := { stood := { row := fnExactDividingPointsUptoRow, standIns := [], harness := (true, "eb4da50d850a257783d974bdc6a7edce19d5a0486dd839d208f0f4df3ea15905"), looks := false }, kinds := [], alts := [], laidByText := true, laidKinds := [.data, .data], laidTests := true, laidLooks := .later }
def FnExactDividingPointsUptoCardSaid : Prop := Claim7.holds Tryd.pinned (.plain (OpenSpec.upto fnExactDividingPointsSpec)) fnExactDividingPointsUptoCard

/-- THE SECOND FORM's CARD OF 'laws.FnExactPairsOf'. -/
def fnExactPairsOfUptoCard : Claim7 := { stood := { row := fnExactPairsOfUptoRow, standIns := [], harness := (true, "eb4da50d850a257783d974bdc6a7edce19d5a0486dd839d208f0f4df3ea15905"), looks := false }, kinds := [], alts := [], laidByText := true, laidKinds := [.data, .data], laidTests := true, laidLooks := .later }
def FnExactPairsOfUptoCardSaid : Prop := Claim7.holds Tryd.pinned (.plain (OpenSpec.upto fnExactPairsOfSpec)) fnExactPairsOfUptoCard

/-- THE SECOND FORM's CARD OF 'laws.FnExactJoinPanel'. -/
def fnExactJoinPanelUptoCard : Claim7 := { stood := { row := fnExactJoinPanelUptoRow, standIns := [], harness := (true, "eb4da50d850a257783d974bdc6a7edce19d5a0486dd839d208f0f4df3ea15905"), looks := false }, kinds := [], alts := [], laidByText := true, laidKinds := [.data, .data], laidTests := true, laidLooks := .later }
def FnExactJoinPanelUptoCardSaid : Prop := Claim7.holds Tryd.pinned (.plain (OpenSpec.upto fnExactJoinPanelSpec)) fnExactJoinPanelUptoCard

/-- THE SECOND FORM's CARD OF 'laws.FnSharedPoints'. -/
def fnSharedPointsUptoCard : Claim7 := { stood := { row := fnSharedPointsUptoRow, standIns := [], harness := (true, "eb4da50d850a257783d974bdc6a7edce19d5a0486dd839d208f0f4df3ea15905"), looks := false }, kinds := [], alts := [], laidByText := true, laidKinds := [.data, .data], laidTests := true, laidLooks := .later }
def FnSharedPointsUptoCardSaid : Prop := Claim7.holds Tryd.pinned (.plain (OpenSpec.upto fnSharedPointsSpec)) fnSharedPointsUptoCard

/-- THE SECOND FORM's CARD OF 'laws.FnExactEditsText'. -/
def fnExactEditsTextUptoCard : Claim7 := { stood := { row := fnExactEditsTextUptoRow, standIns := [], harness := (true, "eb4da50d850a257783d974bdc6a7edce19d5a0486dd839d208f0f4df3ea15905"), looks := false }, kinds := [], alts := [], laidByText := true, laidKinds := [.data, .data, .data], laidTests := true, laidLooks := .later }
def FnExactEditsTextUptoCardSaid : Prop := Claim7.holds Tryd.pinned (.plain (OpenSpec.upto fnExactEditsTextSpec)) fnExactEditsTextUptoCard
end Rows
end Go.Proofs.YtjgclemfehfgiaaDoor
