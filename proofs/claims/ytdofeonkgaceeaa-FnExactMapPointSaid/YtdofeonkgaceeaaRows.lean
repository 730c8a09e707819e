/-
  No cell of these rows narrows 'for every input' (looked for: loops, veiled, ifaces, maps, wideKeys, modest, calm, conditions, laid).
  DERIVED. THE GIVEN ROWS OF THIS SEAT. 4 by the template 'for every input the law returns true; each argument reads behind the call as it read before'; 0 by the template 'total and deterministic' (their statements: YtdofeonkgaceeaaTotals.lean).
  GIVEN WITH THE SEED: the statements are not yours to turn. If you find one false, say at which input.
  Laid BY PROGRAM, IN A SANDBOX (cutbox-rows.mjs): the forced cells as the released guide's own fill.sh prints them over the translation 965f45f3e1b2171f… (all of the seat's roots in one cut). By AI agents, Wed Nov 11 2026. No macro, syntax, notation, axiom, sorry.
-/
import Derived.Test.YtdofeonkgaceeaaChecked
import GoSem.Claim
import GoSem.ClaimJoined
import GoSem.ClaimMapViews
import Derived.JoinedTies
import Derived.KernelRfl
namespace Go.Proofs.Ytdofeonkgaceeaa
/- THE CELL 'sum', in the pinned program and in every row, IS THE sha256 OF THE DUMP (.gsa) THAT YtdofeonkgaceeaaProg.lean LOADS. Nothing in Lean hashes anything: it is a label: what it is worth is what the hold of that sum in a sandbox is worth. -/
noncomputable def Try.pinned : Pinned := { name := "ytdofeonkgaceeaa", sum := "965f45f3e1b2171fc9c386b394f01bec94550e2e90a121583612020922572f73", checked := Try.checked }
namespace Rows
def none {H : Type} : Left H := { results := [], args := [] }

/-- 'laws.FnExactComposeSyms': WHATEVER THE INPUT: true; the input reads as it did. -/
def fnExactComposeSymsSpec : ChangeSpec := { name := "fnExactComposeSyms", fn := fun _ => fun
  | [d1, d2] => { results := [.lit (.bool true)], args := [d1, d2] }
  | _ => none }
def fnExactComposeSymsRow : OpenClaim := { program := "ytdofeonkgaceeaa", sum := "965f45f3e1b2171fc9c386b394f01bec94550e2e90a121583612020922572f73", func := "loop.example/g00931/laws.FnExactComposeSyms", spec := "fnExactComposeSyms", apart := false }
def FnExactComposeSymsSaid : Prop := fnExactComposeSymsRow.holds Try.pinned (OpenSpec.ofChange fnExactComposeSymsSpec)

/-- ITS FALSE NEIGHBOUR: 'it returns false'. Refute it at one input. -/
def fnExactComposeSymsWrong : ChangeSpec := { name := "fnExactComposeSyms", fn := fun _ => fun
  | [d1, d2] => { results := [.lit (.bool false)], args := [d1, d2] }
  | _ => none }
def FnExactComposeSymsWrongFalsely : Prop := fnExactComposeSymsRow.holds Try.pinned (OpenSpec.ofChange fnExactComposeSymsWrong)

/-- 'laws.FnExactInverseSym': WHATEVER THE INPUT: true; the input reads as it did. -/
def fnExactInverseSymSpec : ChangeSpec := { name := "fnExactInverseSym", fn := fun _ => fun
  | [d] => { results := [.lit (.bool true)], args := [d] }
  | _ => none }
def fnExactInverseSymRow : OpenClaim := { program := "ytdofeonkgaceeaa", sum := "965f45f3e1b2171fc9c386b394f01bec94550e2e90a121583612020922572f73", func := "loop.example/g00931/laws.FnExactInverseSym", spec := "fnExactInverseSym", apart := false }
def FnExactInverseSymSaid : Prop := fnExactInverseSymRow.holds Try.pinned (OpenSpec.ofChange fnExactInverseSymSpec)

/-- ITS FALSE NEIGHBOUR: 'it returns false'. Refute it at one input. -/
def fnExactInverseSymWrong : ChangeSpec := { name := "fnExactInverseSym", fn := fun _ => fun
  | [d] => { results := [.lit (.bool false)], args := [d] }
  | _ => none }
def FnExactInverseSymWrongFalsely : Prop := fnExactInverseSymRow.holds Try.pinned (OpenSpec.ofChange fnExactInverseSymWrong)

/-- 'laws.FnExactMapPoint': WHATEVER THE INPUT: true; the input reads as it did. -/
def fnExactMapPointSpec : ChangeSpec := { name := "fnExactMapPoint", fn := fun _ => fun
  | [d1, d2, d3] => { results := [.lit (.bool true)], args := [d1, d2, d3] }
  | _ => none }
def fnExactMapPointRow : OpenClaim := { program := "ytdofeonkgaceeaa", sum := "965f45f3e1b2171fc9c386b394f01bec94550e2e90a121583612020922572f73", func := "loop.example/g00931/laws.FnExactMapPoint", spec := "fnExactMapPoint", unfollowed := true, recurses := true, apart := false }
def FnExactMapPointSaid : Prop := fnExactMapPointRow.holds Try.pinned (OpenSpec.ofChange fnExactMapPointSpec)

/-- ITS FALSE NEIGHBOUR: 'it returns false'. Refute it at one input. -/
def fnExactMapPointWrong : ChangeSpec := { name := "fnExactMapPoint", fn := fun _ => fun
  | [d1, d2, d3] => { results := [.lit (.bool false)], args := [d1, d2, d3] }
  | _ => none }
def FnExactMapPointWrongFalsely : Prop := fnExactMapPointRow.holds Try.pinned (OpenSpec.ofChange fnExactMapPointWrong)

/-- 'laws.FnExactComparePanels': WHATEVER THE INPUT: true; the input reads as it did. -/
def fnExactComparePanelsSpec : ChangeSpec := { name := "fnExactComparePanels", fn := fun _ => fun
  | [d1, d2] => { results := [.lit (.bool true)], args := [d1, d2] }
  | _ => none }
def fnExactComparePanelsRow : OpenClaim := { program := "ytdofeonkgaceeaa", sum := "965f45f3e1b2171fc9c386b394f01bec94550e2e90a121583612020922572f73", func := "loop.example/g00931/laws.FnExactComparePanels", spec := "fnExactComparePanels", apart := false }
def FnExactComparePanelsSaid : Prop := fnExactComparePanelsRow.holds Try.pinned (OpenSpec.ofChange fnExactComparePanelsSpec)

/-- ITS FALSE NEIGHBOUR: 'it returns false'. Refute it at one input. -/
def fnExactComparePanelsWrong : ChangeSpec := { name := "fnExactComparePanels", fn := fun _ => fun
  | [d1, d2] => { results := [.lit (.bool false)], args := [d1, d2] }
  | _ => none }
def FnExactComparePanelsWrongFalsely : Prop := fnExactComparePanelsRow.holds Try.pinned (OpenSpec.ofChange fnExactComparePanelsWrong)

/- THE SECOND FORM. 'bulk': how many values and letters a reading holds, each counted each time it is reached (what is shared counts as often as it is met; a slice's spare places count too). A statement '..UptoSaid' is the law's where the arguments, and the package variables that the reading takes, are together of bulk at most 1048576: NARROWER than '..Said'. Prove '..Said' where nothing that the law and all that it calls make is longer than what came in: it says more and counts as full. Else prove '..UptoSaid'. A law counts once. -/
mutual
def uptoBulk {H : Type} : DataW H → Nat
  | .lit (.string bytes) => bytes.length + 1
  | .lit _ => 1
  | .nil => 1
  | .ptr d => uptoBulk d + 1
  | .slice elems spare => uptoBulkAll elems + uptoBulkAll spare + 1
  | .agg parts => uptoBulkAll parts + 1
  | .iface _ d => uptoBulk d + 1
  | .map entries => uptoBulkEntries entries + 1
  | .held _ => 1
def uptoBulkAll {H : Type} : List (DataW H) → Nat
  | [] => 0
  | d :: r => uptoBulk d + uptoBulkAll r
def uptoBulkEntries {H : Type} : List (Lit × DataW H) → Nat
  | [] => 0
  | x :: r => uptoBulkEntry x + uptoBulkEntries r
def uptoBulkEntry {H : Type} : Lit × DataW H → Nat
  | (.string bytes, d) => bytes.length + uptoBulk d + 1
  | (_, d) => uptoBulk d + 1
 end
def uptoSmall : (H : Type) → List (DataW H) → Bool := fun _ ds => decide (uptoBulkAll ds ≤ 1048576)
def OpenSpec.upto (s : _root_.Go.ChangeSpec) : _root_.Go.OpenSpec := { _root_.Go.OpenSpec.ofChange s with cond := some uptoSmall }

/-- 'laws.FnExactComposeSyms', WHERE WHAT IT READS IS OF BULK AT MOST 1048576: true; the input reads as it did. -/
def fnExactComposeSymsUptoRow : OpenClaim := { program := "ytdofeonkgaceeaa", sum := "965f45f3e1b2171fc9c386b394f01bec94550e2e90a121583612020922572f73", func := "loop.example/g00931/laws.FnExactComposeSyms", spec := "fnExactComposeSyms", apart := false, narrowed := true }
def FnExactComposeSymsUptoSaid : Prop := fnExactComposeSymsUptoRow.holds Try.pinned (OpenSpec.upto fnExactComposeSymsSpec)

/-- 'laws.FnExactInverseSym', WHERE WHAT IT READS IS OF BULK AT MOST 1048576: true; the input reads as it did. -/
def fnExactInverseSymUptoRow : OpenClaim := { program := "ytdofeonkgaceeaa", sum := "965f45f3e1b2171fc9c386b394f01bec94550e2e90a121583612020922572f73", func := "loop.example/g00931/laws.FnExactInverseSym", spec := "fnExactInverseSym", apart := false, narrowed := true }
def FnExactInverseSymUptoSaid : Prop := fnExactInverseSymUptoRow.holds Try.pinned (OpenSpec.upto fnExactInverseSymSpec)

/-- 'laws.FnExactMapPoint', WHERE WHAT IT READS IS OF BULK AT MOST 1048576: true; the input reads as it did. -/
def fnExactMapPointUptoRow : OpenClaim := { program := "ytdofeonkgaceeaa", sum := "965f45f3e1b2171fc9c386b394f01bec94550e2e90a121583612020922572f73", func := "loop.example/g00931/laws.FnExactMapPoint", spec := "fnExactMapPoint", unfollowed := true, recurses := true, apart := false, narrowed := true }
def FnExactMapPointUptoSaid : Prop := fnExactMapPointUptoRow.holds Try.pinned (OpenSpec.upto fnExactMapPointSpec)

/-- 'laws.FnExactComparePanels', WHERE WHAT IT READS IS OF BULK AT MOST 1048576: true; the input reads as it did. -/
def fnExactComparePanelsUptoRow : OpenClaim := { program := "ytdofeonkgaceeaa", sum := "965f45f3e1b2171fc9c386b394f01bec94550e2e90a121583612020922572f73", func := "loop.example/g00931/laws.FnExactComparePanels", spec := "fnExactComparePanels", apart := false, narrowed := true }
def FnExactComparePanelsUptoSaid : Prop := fnExactComparePanelsUptoRow.holds Try.pinned (OpenSpec.upto fnExactComparePanelsSpec)

end Rows
end Go.Proofs.Ytdofeonkgaceeaa
