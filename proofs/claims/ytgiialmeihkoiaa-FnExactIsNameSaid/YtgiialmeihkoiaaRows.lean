/-
  No cell of these rows narrows 'for every input' (looked for: loops, veiled, ifaces, maps, wideKeys, modest, calm, conditions, laid).
  DERIVED. THE GIVEN ROWS OF THIS SEAT. 9 by the template 'for every input the law returns true; each argument reads behind the call as it read before'; 0 by the template 'total and deterministic' (their statements: YtgiialmeihkoiaaTotals.lean).
  GIVEN WITH THE SEED: the statements are not yours to turn. If you find one false, say at which input.
  Laid BY PROGRAM, IN A SANDBOX (cutbox-rows.mjs): the forced cells as the released guide's own fill.sh prints them over the translation fe1e5eb2e5806c7e… (all of the seat's roots in one cut). By AI agents, Wed Nov 11 2026. No macro, syntax, notation, axiom, sorry.
-/
import Derived.Test.YtgiialmeihkoiaaChecked
import GoSem.Claim
import GoSem.ClaimJoined
import GoSem.ClaimMapViews
import Derived.JoinedTies
import Derived.KernelRfl
namespace Go.Proofs.Ytgiialmeihkoiaa
/- THE CELL 'sum', in the pinned program and in every row, IS THE sha256 OF THE DUMP (.gsa) THAT YtgiialmeihkoiaaProg.lean LOADS. Nothing in Lean hashes anything: it is a label: what it is worth is what the hold of that sum in a sandbox is worth. -/
noncomputable def Try.pinned : Pinned := { name := "ytgiialmeihkoiaa", sum := "fe1e5eb2e5806c7e33496dca0127bab59a40abe1bfc1714c1d90ade06d887365", checked := Try.checked }
namespace Rows
def none {H : Type} : Left H := { results := [], args := [] }

/-- 'laws.FnPoints': WHATEVER THE INPUT: true; the input reads as it did. -/
def fnPointsSpec : ChangeSpec := { name := "fnPoints", fn := fun _ => fun
  | [d1, d2] => { results := [.lit (.bool true)], args := [d1, d2] }
  | _ => none }
def fnPointsRow : OpenClaim := { program := "ytgiialmeihkoiaa", sum := "fe1e5eb2e5806c7e33496dca0127bab59a40abe1bfc1714c1d90ade06d887365", func := "loop.example/g00931/laws.FnPoints", spec := "fnPoints", apart := false }
def FnPointsSaid : Prop := fnPointsRow.holds Try.pinned (OpenSpec.ofChange fnPointsSpec)

/-- ITS FALSE NEIGHBOUR: 'it returns false'. Refute it at one input. -/
def fnPointsWrong : ChangeSpec := { name := "fnPoints", fn := fun _ => fun
  | [d1, d2] => { results := [.lit (.bool false)], args := [d1, d2] }
  | _ => none }
def FnPointsWrongFalsely : Prop := fnPointsRow.holds Try.pinned (OpenSpec.ofChange fnPointsWrong)

/-- 'laws.FnExactIsName': WHATEVER THE INPUT: true; the input reads as it did. -/
def fnExactIsNameSpec : ChangeSpec := { name := "fnExactIsName", fn := fun _ => fun
  | [d] => { results := [.lit (.bool true)], args := [d] }
  | _ => none }
def fnExactIsNameRow : OpenClaim := { program := "ytgiialmeihkoiaa", sum := "fe1e5eb2e5806c7e33496dca0127bab59a40abe1bfc1714c1d90ade06d887365", func := "loop.example/g00931/laws.FnExactIsName", spec := "fnExactIsName", apart := false }
def FnExactIsNameSaid : Prop := fnExactIsNameRow.holds Try.pinned (OpenSpec.ofChange fnExactIsNameSpec)

/-- ITS FALSE NEIGHBOUR: 'it returns false'. Refute it at one input. -/
def fnExactIsNameWrong : ChangeSpec := { name := "fnExactIsName", fn := fun _ => fun
  | [d] => { results := [.lit (.bool false)], args := [d] }
  | _ => none }
def FnExactIsNameWrongFalsely : Prop := fnExactIsNameRow.holds Try.pinned (OpenSpec.ofChange fnExactIsNameWrong)

/-- 'laws.FnExactSplitWords': WHATEVER THE INPUT: true; the input reads as it did. -/
def fnExactSplitWordsSpec : ChangeSpec := { name := "fnExactSplitWords", fn := fun _ => fun
  | [d] => { results := [.lit (.bool true)], args := [d] }
  | _ => none }
def fnExactSplitWordsRow : OpenClaim := { program := "ytgiialmeihkoiaa", sum := "fe1e5eb2e5806c7e33496dca0127bab59a40abe1bfc1714c1d90ade06d887365", func := "loop.example/g00931/laws.FnExactSplitWords", spec := "fnExactSplitWords", unfollowed := true, recurses := true, apart := false }
def FnExactSplitWordsSaid : Prop := fnExactSplitWordsRow.holds Try.pinned (OpenSpec.ofChange fnExactSplitWordsSpec)

/-- ITS FALSE NEIGHBOUR: 'it returns false'. Refute it at one input. -/
def fnExactSplitWordsWrong : ChangeSpec := { name := "fnExactSplitWords", fn := fun _ => fun
  | [d] => { results := [.lit (.bool false)], args := [d] }
  | _ => none }
def FnExactSplitWordsWrongFalsely : Prop := fnExactSplitWordsRow.holds Try.pinned (OpenSpec.ofChange fnExactSplitWordsWrong)

/-- 'laws.FnExactValidPanel': WHATEVER THE INPUT: true; the input reads as it did. -/
def fnExactValidPanelSpec : ChangeSpec := { name := "fnExactValidPanel", fn := fun _ => fun
  | [d] => { results := [.lit (.bool true)], args := [d] }
  | _ => none }
def fnExactValidPanelRow : OpenClaim := { program := "ytgiialmeihkoiaa", sum := "fe1e5eb2e5806c7e33496dca0127bab59a40abe1bfc1714c1d90ade06d887365", func := "loop.example/g00931/laws.FnExactValidPanel", spec := "fnExactValidPanel", apart := false }
def FnExactValidPanelSaid : Prop := fnExactValidPanelRow.holds Try.pinned (OpenSpec.ofChange fnExactValidPanelSpec)

/-- ITS FALSE NEIGHBOUR: 'it returns false'. Refute it at one input. -/
def fnExactValidPanelWrong : ChangeSpec := { name := "fnExactValidPanel", fn := fun _ => fun
  | [d] => { results := [.lit (.bool false)], args := [d] }
  | _ => none }
def FnExactValidPanelWrongFalsely : Prop := fnExactValidPanelRow.holds Try.pinned (OpenSpec.ofChange fnExactValidPanelWrong)

/-- 'laws.FnExactSamePanel': WHATEVER THE INPUT: true; the input reads as it did. -/
def fnExactSamePanelSpec : ChangeSpec := { name := "fnExactSamePanel", fn := fun _ => fun
  | [d1, d2] => { results := [.lit (.bool true)], args := [d1, d2] }
  | _ => none }
def fnExactSamePanelRow : OpenClaim := { program := "ytgiialmeihkoiaa", sum := "fe1e5eb2e5806c7e33496dca0127bab59a40abe1bfc1714c1d90ade06d887365", func := "loop.example/g00931/laws.FnExactSamePanel", spec := "fnExactSamePanel", apart := false }
def FnExactSamePanelSaid : Prop := fnExactSamePanelRow.holds Try.pinned (OpenSpec.ofChange fnExactSamePanelSpec)

/-- ITS FALSE NEIGHBOUR: 'it returns false'. Refute it at one input. -/
def fnExactSamePanelWrong : ChangeSpec := { name := "fnExactSamePanel", fn := fun _ => fun
  | [d1, d2] => { results := [.lit (.bool false)], args := [d1, d2] }
  | _ => none }
def FnExactSamePanelWrongFalsely : Prop := fnExactSamePanelRow.holds Try.pinned (OpenSpec.ofChange fnExactSamePanelWrong)

/-- 'laws.FnExactInnerPoints': WHATEVER THE INPUT: true; the input reads as it did. -/
def fnExactInnerPointsSpec : ChangeSpec := { name := "fnExactInnerPoints", fn := fun _ => fun
  | [d1, d2] => { results := [.lit (.bool true)], args := [d1, d2] }
  | _ => none }
def fnExactInnerPointsRow : OpenClaim := { program := "ytgiialmeihkoiaa", sum := "fe1e5eb2e5806c7e33496dca0127bab59a40abe1bfc1714c1d90ade06d887365", func := "loop.example/g00931/laws.FnExactInnerPoints", spec := "fnExactInnerPoints", apart := false }
def FnExactInnerPointsSaid : Prop := fnExactInnerPointsRow.holds Try.pinned (OpenSpec.ofChange fnExactInnerPointsSpec)

/-- ITS FALSE NEIGHBOUR: 'it returns false'. Refute it at one input. -/
def fnExactInnerPointsWrong : ChangeSpec := { name := "fnExactInnerPoints", fn := fun _ => fun
  | [d1, d2] => { results := [.lit (.bool false)], args := [d1, d2] }
  | _ => none }
def FnExactInnerPointsWrongFalsely : Prop := fnExactInnerPointsRow.holds Try.pinned (OpenSpec.ofChange fnExactInnerPointsWrong)

/-- 'laws.FnExactNewPanel': WHATEVER THE INPUT: true; the input reads as it did. -/
def fnExactNewPanelSpec : ChangeSpec := { name := "fnExactNewPanel", fn := fun _ => fun
  | [d1, d2] => { results := [.lit (.bool true)], args := [d1, d2] }
  | _ => none }
def fnExactNewPanelRow : OpenClaim := { program := "ytgiialmeihkoiaa", sum := "fe1e5eb2e5806c7e33496dca0127bab59a40abe1bfc1714c1d90ade06d887365", func := "loop.example/g00931/laws.FnExactNewPanel", spec := "fnExactNewPanel", apart := false }
def FnExactNewPanelSaid : Prop := fnExactNewPanelRow.holds Try.pinned (OpenSpec.ofChange fnExactNewPanelSpec)

/-- ITS FALSE NEIGHBOUR: 'it returns false'. Refute it at one input. -/
def fnExactNewPanelWrong : ChangeSpec := { name := "fnExactNewPanel", fn := fun _ => fun
  | [d1, d2] => { results := [.lit (.bool false)], args := [d1, d2] }
  | _ => none }
def FnExactNewPanelWrongFalsely : Prop := fnExactNewPanelRow.holds Try.pinned (OpenSpec.ofChange fnExactNewPanelWrong)

/-- 'laws.FnExactIsPoint': WHATEVER THE INPUT: true; the input reads as it did. -/
def fnExactIsPointSpec : ChangeSpec := { name := "fnExactIsPoint", fn := fun _ => fun
  | [d1, d2] => { results := [.lit (.bool true)], args := [d1, d2] }
  | _ => none }
def fnExactIsPointRow : OpenClaim := { program := "ytgiialmeihkoiaa", sum := "fe1e5eb2e5806c7e33496dca0127bab59a40abe1bfc1714c1d90ade06d887365", func := "loop.example/g00931/laws.FnExactIsPoint", spec := "fnExactIsPoint", apart := false }
def FnExactIsPointSaid : Prop := fnExactIsPointRow.holds Try.pinned (OpenSpec.ofChange fnExactIsPointSpec)

/-- ITS FALSE NEIGHBOUR: 'it returns false'. Refute it at one input. -/
def fnExactIsPointWrong : ChangeSpec := { name := "fnExactIsPoint", fn := fun _ => fun
  | [d1, d2] => { results := [.lit (.bool false)], args := [d1, d2] }
  | _ => none }
def FnExactIsPointWrongFalsely : Prop := fnExactIsPointRow.holds Try.pinned (OpenSpec.ofChange fnExactIsPointWrong)

/-- 'laws.FnExactIsBorder': WHATEVER THE INPUT: true; the input reads as it did. -/
def fnExactIsBorderSpec : ChangeSpec := { name := "fnExactIsBorder", fn := fun _ => fun
  | [d1, d2] => { results := [.lit (.bool true)], args := [d1, d2] }
  | _ => none }
def fnExactIsBorderRow : OpenClaim := { program := "ytgiialmeihkoiaa", sum := "fe1e5eb2e5806c7e33496dca0127bab59a40abe1bfc1714c1d90ade06d887365", func := "loop.example/g00931/laws.FnExactIsBorder", spec := "fnExactIsBorder", apart := false }
def FnExactIsBorderSaid : Prop := fnExactIsBorderRow.holds Try.pinned (OpenSpec.ofChange fnExactIsBorderSpec)

/-- ITS FALSE NEIGHBOUR: 'it returns false'. Refute it at one input. -/
def fnExactIsBorderWrong : ChangeSpec := { name := "fnExactIsBorder", fn := fun _ => fun
  | [d1, d2] => { results := [.lit (.bool false)], args := [d1, d2] }
  | _ => none }
def FnExactIsBorderWrongFalsely : Prop := fnExactIsBorderRow.holds Try.pinned (OpenSpec.ofChange fnExactIsBorderWrong)

/- THE SECOND FORM. 'bulk': how many values and letters a reading holds, each counted each time it is reached (what is shared counts as often as it is met; a slice's spare places count too). A statement '..UptoSaid' is the law's where the arguments, and the package variables that the reading takes, are together of bulk at most 1048576: NARROWER than '..Said'. Prove '..Said' where nothing that the law and all that it calls make is longer than what came in: it says more and counts as full. Else prove '..UptoSaid'. A law counts once. -/
mutual
def uptoBulk {H : Type} : DataW H → Nat
  | .lit (.string bytes) => bytes.length + 1
  | .lit _ => 1
  | .nil => 1
  | .ptr d => uptoBulk d + 1
  | .slice elems spare => uptoBulkAll elems + uptoBulkAll spare + 1
  | .agg parts => uptoBulkAll parts + 1
  | .iface _ d => uptoBulk d + 1
  | .map entries => uptoBulkEntries entries + 1
  | .held _ => 1
def uptoBulkAll {H : Type} : List (DataW H) → Nat
  | [] => 0
  | d :: r => uptoBulk d + uptoBulkAll r
def uptoBulkEntries {H : Type} : List (Lit × DataW H) → Nat
  | [] => 0
  | x :: r => uptoBulkEntry x + uptoBulkEntries r
def uptoBulkEntry {H : Type} : Lit × DataW H → Nat
  | (.string bytes, d) => bytes.length + uptoBulk d + 1
  | (_, d) => uptoBulk d + 1
 end
def uptoSmall : (H : Type) → List (DataW H) → Bool := fun _ ds => decide (uptoBulkAll ds ≤ 1048576)
def OpenSpec.upto (s : _root_.Go.ChangeSpec) : _root_.Go.OpenSpec := { _root_.Go.OpenSpec.ofChange s with cond := some uptoSmall }

/-- 'laws.FnPoints', WHERE WHAT IT READS IS OF BULK AT MOST 1048576: true; the input reads as it did. -/
def fnPointsUptoRow : OpenClaim := { program := "ytgiialmeihkoiaa", sum := "fe1e5eb2e5806c7e33496dca0127bab59a40abe1bfc1714c1d90ade06d887365", func := "loop.example/g00931/laws.FnPoints", spec := "fnPoints", apart := false, narrowed := true }
def FnPointsUptoSaid : Prop := fnPointsUptoRow.holds Try.pinned (OpenSpec.upto fnPointsSpec)

/-- 'laws.FnExactIsName', WHERE WHAT IT READS IS OF BULK AT MOST 1048576: true; the input reads as it did. -/
def fnExactIsNameUptoRow : OpenClaim := { program := "ytgiialmeihkoiaa", sum := "fe1e5eb2e5806c7e33496dca0127bab59a40abe1bfc1714c1d90ade06d887365", func := "loop.example/g00931/laws.FnExactIsName", spec := "fnExactIsName", apart := false, narrowed := true }
def FnExactIsNameUptoSaid : Prop := fnExactIsNameUptoRow.holds Try.pinned (OpenSpec.upto fnExactIsNameSpec)

/-- 'laws.FnExactSplitWords', WHERE WHAT IT READS IS OF BULK AT MOST 1048576: true; the input reads as it did. -/
def fnExactSplitWordsUptoRow : OpenClaim := { program := "ytgiialmeihkoiaa", sum := "fe1e5eb2e5806c7e33496dca0127bab59a40abe1bfc1714c1d90ade06d887365", func := "loop.example/g00931/laws.FnExactSplitWords", spec := "fnExactSplitWords", unfollowed := true, recurses := true, apart := false, narrowed := true }
def FnExactSplitWordsUptoSaid : Prop := fnExactSplitWordsUptoRow.holds Try.pinned (OpenSpec.upto fnExactSplitWordsSpec)

/-- 'laws.FnExactValidPanel', WHERE WHAT IT READS IS OF BULK AT MOST 1048576: true; the input reads as it did. -/
def fnExactValidPanelUptoRow : OpenClaim := { program := "ytgiialmeihkoiaa", sum := "fe1e5eb2e5806c7e33496dca0127bab59a40abe1bfc1714c1d90ade06d887365", func := "loop.example/g00931/laws.FnExactValidPanel", spec := "fnExactValidPanel", apart := false, narrowed := true }
def FnExactValidPanelUptoSaid : Prop := fnExactValidPanelUptoRow.holds Try.pinned (OpenSpec.upto fnExactValidPanelSpec)

/-- 'laws.FnExactSamePanel', WHERE WHAT IT READS IS OF BULK AT MOST 1048576: true; the input reads as it did. -/
def fnExactSamePanelUptoRow : OpenClaim := { program := "ytgiialmeihkoiaa", sum := "fe1e5eb2e5806c7e33496dca0127bab59a40abe1bfc1714c1d90ade06d887365", func := "loop.example/g00931/laws.FnExactSamePanel", spec := "fnExactSamePanel", apart := false, narrowed := true }
def FnExactSamePanelUptoSaid : Prop := fnExactSamePanelUptoRow.holds Try.pinned (OpenSpec.upto fnExactSamePanelSpec)

/-- 'laws.FnExactInnerPoints', WHERE WHAT IT READS IS OF BULK AT MOST 1048576: true; the input reads as it did. -/
def fnExactInnerPointsUptoRow : OpenClaim := { program := "ytgiialmeihkoiaa", sum := "fe1e5eb2e5806c7e33496dca0127bab59a40abe1bfc1714c1d90ade06d887365", func := "loop.example/g00931/laws.FnExactInnerPoints", spec := "fnExactInnerPoints", apart := false, narrowed := true }
def FnExactInnerPointsUptoSaid : Prop := fnExactInnerPointsUptoRow.holds Try.pinned (OpenSpec.upto fnExactInnerPointsSpec)

/-- 'laws.FnExactNewPanel', WHERE WHAT IT READS IS OF BULK AT MOST 1048576: true; the input reads as it did. -/
def fnExactNewPanelUptoRow : OpenClaim := { program := "ytgiialmeihkoiaa", sum := "fe1e5eb2e5806c7e33496dca0127bab59a40abe1bfc1714c1d90ade06d887365", func := "loop.example/g00931/laws.FnExactNewPanel", spec := "fnExactNewPanel", apart := false, narrowed := true }
def FnExactNewPanelUptoSaid : Prop := fnExactNewPanelUptoRow.holds Try.pinned (OpenSpec.upto fnExactNewPanelSpec)

/-- 'laws.FnExactIsPoint', WHERE WHAT IT READS IS OF BULK AT MOST 1048576: true; the input reads as it did. -/
def fnExactIsPointUptoRow : OpenClaim := { program := "ytgiialmeihkoiaa", sum := "fe1e5eb2e5806c7e33496dca0127bab59a40abe1bfc1714c1d90ade06d887365", func := "loop.example/g00931/laws.FnExactIsPoint", spec := "fnExactIsPoint", apart := false, narrowed := true }
def FnExactIsPointUptoSaid : Prop := fnExactIsPointUptoRow.holds Try.pinned (OpenSpec.upto fnExactIsPointSpec)

/-- 'laws.FnExactIsBorder', WHERE WHAT IT READS IS OF BULK AT MOST 1048576: true; the input reads as it did. -/
def fnExactIsBorderUptoRow : OpenClaim := { program := "ytgiialmeihkoiaa", sum := "fe1e5eb2e5806c7e33496dca0127bab59a40abe1bfc1714c1d90ade06d887365", func := "loop.example/g00931/laws.FnExactIsBorder", spec := "fnExactIsBorder", apart := false, narrowed := true }
def FnExactIsBorderUptoSaid : Prop := fnExactIsBorderUptoRow.holds Try.pinned (OpenSpec.upto fnExactIsBorderSpec)

end Rows
end Go.Proofs.Ytgiialmeihkoiaa
