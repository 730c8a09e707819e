/-
  NARROWER THAN 'FOR EVERY INPUT', by the rows' own cells (each row's printed sentence says how): FnExactMapPanel: laid · FnExactSymmetriesOf: laid · FnExactPointOrbit: laid · FnExactCanonicalPanel: laid · FnExactAlikePanels: laid · FnExactSymmetricPanel: laid · FnCanonicals: laid · FnOrbits: laid.
  DERIVED. THE GIVEN ROWS OF THIS SEAT. 8 by the template 'for every input the law returns true; each argument reads behind the call as it read before'; 0 by the template 'total and deterministic' (their statements: YtdofeonkgaceeaaDoorTotals.lean).
  GIVEN WITH THE SEED: the statements are not yours to turn. If you find one false, say at which input.
  Laid BY PROGRAM, IN A SANDBOX (cutbox-rows.mjs): the forced cells as the released guide's own fill.sh prints them over the translation 8d237d29cec7cbb3… (all of the seat's roots in one cut). By AI agents, Wed Nov 11 2026. No macro, syntax, notation, axiom, sorry.
-/
import Derived.Test.YtdofeonkgaceeaaDoorChecked
import GoSem.Claim
import GoSem.ClaimJoined
import GoSem.ClaimMapViews
import Derived.JoinedTies
import Derived.KernelRfl
namespace Go.Proofs.YtdofeonkgaceeaaDoor
/- THE CELL 'sum', in the pinned program and in every row, IS THE sha256 OF THE DUMP (.gsa) THAT YtdofeonkgaceeaaDoorProg.lean LOADS. Nothing in Lean hashes anything: it is a label: what it is worth is what the hold of that sum in a sandbox is worth. -/
noncomputable def Tryd.pinned : Pinned := { name := "ytdofeonkgaceeaadoor", sum := "8d237d29cec7cbb3b79a775adbae70561145aa7a8065fffd68b7770b2db48269", checked := Tryd.checked }
namespace Rows
def none {H : Type} : Left H := { results := [], args := [] }

/- WHAT THE LISTED PACKAGE-LEVEL VARIABLES READ AS WHEN THE CALL BEGINS. Each datum BY PROGRAM (the guide's laid-datum.mjs) off the statement by which the dump's own 'gosem.cut.vars' lays the variable. In a bare row this is a premise. The card (YtdofeonkgaceeaaDoorCards.lean) ties it to the program's text. -/
def laid_loop_example_g00931_impl_exchangedBreaks {H : Type} : DataW H := .agg [.lit (.int .i64 0), .lit (.int .i64 2), .lit (.int .i64 1)]

/-- 'laws.FnExactMapPanel': WHATEVER THE INPUT: true; the input reads as it did. -/
def fnExactMapPanelSpec : ChangeSpec := { name := "fnExactMapPanel", vars := ["loop.example/g00931/impl.exchangedBreaks"], fn := fun _ => fun
  | [d1, d2, g1] => { results := [.lit (.bool true)], args := [d1, d2], vars := [g1] }
  | _ => none }
def fnExactMapPanelRow : OpenClaim := { program := "ytdofeonkgaceeaadoor", sum := "8d237d29cec7cbb3b79a775adbae70561145aa7a8065fffd68b7770b2db48269", func := "loop.example/g00931/laws.FnExactMapPanel", spec := "fnExactMapPanel", unfollowed := true, recurses := true, named := ["loop.example/g00931/impl.exchangedBreaks"], apart := false, laid := [("loop.example/g00931/impl.exchangedBreaks", laid_loop_example_g00931_impl_exchangedBreaks)] }
def FnExactMapPanelSaid : Prop := fnExactMapPanelRow.holds Tryd.pinned (OpenSpec.ofChange fnExactMapPanelSpec)

/-- ITS FALSE NEIGHBOUR: 'it returns false'. Refute it at one input. -/
def fnExactMapPanelWrong : ChangeSpec := { name := "fnExactMapPanel", vars := ["loop.example/g00931/impl.exchangedBreaks"], fn := fun _ => fun
  | [d1, d2, g1] => { results := [.lit (.bool false)], args := [d1, d2], vars := [g1] }
  | _ => none }
def FnExactMapPanelWrongFalsely : Prop := fnExactMapPanelRow.holds Tryd.pinned (OpenSpec.ofChange fnExactMapPanelWrong)

/-- 'laws.FnExactSymmetriesOf': WHATEVER THE INPUT: true; the input reads as it did. -/
def fnExactSymmetriesOfSpec : ChangeSpec := { name := "fnExactSymmetriesOf", vars := ["loop.example/g00931/impl.exchangedBreaks"], fn := fun _ => fun
  | [d, g1] => { results := [.lit (.bool true)], args := [d], vars := [g1] }
  | _ => none }
def fnExactSymmetriesOfRow : OpenClaim := { program := "ytdofeonkgaceeaadoor", sum := "8d237d29cec7cbb3b79a775adbae70561145aa7a8065fffd68b7770b2db48269", func := "loop.example/g00931/laws.FnExactSymmetriesOf", spec := "fnExactSymmetriesOf", unfollowed := true, recurses := true, named := ["loop.example/g00931/impl.exchangedBreaks"], apart := false, laid := [("loop.example/g00931/impl.exchangedBreaks", laid_loop_example_g00931_impl_exchangedBreaks)] }
def FnExactSymmetriesOfSaid : Prop := fnExactSymmetriesOfRow.holds Tryd.pinned (OpenSpec.ofChange fnExactSymmetriesOfSpec)

/-- ITS FALSE NEIGHBOUR: 'it returns false'. Refute it at one input. -/
def fnExactSymmetriesOfWrong : ChangeSpec := { name := "fnExactSymmetriesOf", vars := ["loop.example/g00931/impl.exchangedBreaks"], fn := fun _ => fun
  | [d, g1] => { results := [.lit (.bool false)], args := [d], vars := [g1] }
  | _ => none }
def FnExactSymmetriesOfWrongFalsely : Prop := fnExactSymmetriesOfRow.holds Tryd.pinned (OpenSpec.ofChange fnExactSymmetriesOfWrong)

/-- 'laws.FnExactPointOrbit': WHATEVER THE INPUT: true; the input reads as it did. -/
def fnExactPointOrbitSpec : ChangeSpec := { name := "fnExactPointOrbit", vars := ["loop.example/g00931/impl.exchangedBreaks"], fn := fun _ => fun
  | [d1, d2, g1] => { results := [.lit (.bool true)], args := [d1, d2], vars := [g1] }
  | _ => none }
def fnExactPointOrbitRow : OpenClaim := { program := "ytdofeonkgaceeaadoor", sum := "8d237d29cec7cbb3b79a775adbae70561145aa7a8065fffd68b7770b2db48269", func := "loop.example/g00931/laws.FnExactPointOrbit", spec := "fnExactPointOrbit", unfollowed := true, recurses := true, named := ["loop.example/g00931/impl.exchangedBreaks"], apart := false, laid := [("loop.example/g00931/impl.exchangedBreaks", laid_loop_example_g00931_impl_exchangedBreaks)] }
def FnExactPointOrbitSaid : Prop := fnExactPointOrbitRow.holds Tryd.pinned (OpenSpec.ofChange fnExactPointOrbitSpec)

/-- ITS FALSE NEIGHBOUR: 'it returns false'. Refute it at one input. -/
def fnExactPointOrbitWrong : ChangeSpec := { name := "fnExactPointOrbit", vars := ["loop.example/g00931/impl.exchangedBreaks"], fn := fun _ => fun
  | [d1, d2, g1] => { results := [.lit (.bool false)], args := [d1, d2], vars := [g1] }
  | _ => none }
def FnExactPointOrbitWrongFalsely : Prop := fnExactPointOrbitRow.holds Tryd.pinned (OpenSpec.ofChange fnExactPointOrbitWrong)

/-- 'laws.FnExactCanonicalPanel': WHATEVER THE INPUT: true; the input reads as it did. -/
def fnExactCanonicalPanelSpec : ChangeSpec := { name := "fnExactCanonicalPanel", vars := ["loop.example/g00931/impl.exchangedBreaks"], fn := fun _ => fun
  | [d, g1] => { results := [.lit (.bool true)], args := [d], vars := [g1] }
  | _ => none }
def fnExactCanonicalPanelRow : OpenClaim := { program := "ytdofeonkgaceeaadoor", sum := "8d237d29cec7cbb3b79a775adbae70561145aa7a8065fffd68b7770b2db48269", func := "loop.example/g00931/laws.FnExactCanonicalPanel", spec := "fnExactCanonicalPanel", unfollowed := true, recurses := true, named := ["loop.example/g00931/impl.exchangedBreaks"], apart := false, laid := [("loop.example/g00931/impl.exchangedBreaks", laid_loop_example_g00931_impl_exchangedBreaks)] }
def FnExactCanonicalPanelSaid : Prop := fnExactCanonicalPanelRow.holds Tryd.pinned (OpenSpec.ofChange fnExactCanonicalPanelSpec)

/-- ITS FALSE NEIGHBOUR: 'it returns false'. Refute it at one input. -/
def fnExactCanonicalPanelWrong : ChangeSpec := { name := "fnExactCanonicalPanel", vars := ["loop.example/g00931/impl.exchangedBreaks"], fn := fun _ => fun
  | [d, g1] => { results := [.lit (.bool false)], args := [d], vars := [g1] }
  | _ => none }
def FnExactCanonicalPanelWrongFalsely : Prop := fnExactCanonicalPanelRow.holds Tryd.pinned (OpenSpec.ofChange fnExactCanonicalPanelWrong)

/-- 'laws.FnExactAlikePanels': WHATEVER THE INPUT: true; the input reads as it did. -/
def fnExactAlikePanelsSpec : ChangeSpec := { name := "fnExactAlikePanels", vars := ["loop.example/g00931/impl.exchangedBreaks"], fn := fun _ => fun
  | [d1, d2, g1] => { results := [.lit (.bool true)], args := [d1, d2], vars := [g1] }
  | _ => none }
def fnExactAlikePanelsRow : OpenClaim := { program := "ytdofeonkgaceeaadoor", sum := "8d237d29cec7cbb3b79a775adbae70561145aa7a8065fffd68b7770b2db48269", func := "loop.example/g00931/laws.FnExactAlikePanels", spec := "fnExactAlikePanels", unfollowed := true, recurses := true, named := ["loop.example/g00931/impl.exchangedBreaks"], apart := false, laid := [("loop.example/g00931/impl.exchangedBreaks", laid_loop_example_g00931_impl_exchangedBreaks)] }
def FnExactAlikePanelsSaid : Prop := fnExactAlikePanelsRow.holds Tryd.pinned (OpenSpec.ofChange fnExactAlikePanelsSpec)

/-- ITS FALSE NEIGHBOUR: 'it returns false'. Refute it at one input. -/
def fnExactAlikePanelsWrong : ChangeSpec := { name := "fnExactAlikePanels", vars := ["loop.example/g00931/impl.exchangedBreaks"], fn := fun _ => fun
  | [d1, d2, g1] => { results := [.lit (.bool false)], args := [d1, d2], vars := [g1] }
  | _ => none }
def FnExactAlikePanelsWrongFalsely : Prop := fnExactAlikePanelsRow.holds Tryd.pinned (OpenSpec.ofChange fnExactAlikePanelsWrong)

/-- 'laws.FnExactSymmetricPanel': WHATEVER THE INPUT: true; the input reads as it did. -/
def fnExactSymmetricPanelSpec : ChangeSpec := { name := "fnExactSymmetricPanel", vars := ["loop.example/g00931/impl.exchangedBreaks"], fn := fun _ => fun
  | [d1, d2, g1] => { results := [.lit (.bool true)], args := [d1, d2], vars := [g1] }
  | _ => none }
def fnExactSymmetricPanelRow : OpenClaim := { program := "ytdofeonkgaceeaadoor", sum := "8d237d29cec7cbb3b79a775adbae70561145aa7a8065fffd68b7770b2db48269", func := "loop.example/g00931/laws.FnExactSymmetricPanel", spec := "fnExactSymmetricPanel", unfollowed := true, recurses := true, named := ["loop.example/g00931/impl.exchangedBreaks"], apart := false, laid := [("loop.example/g00931/impl.exchangedBreaks", laid_loop_example_g00931_impl_exchangedBreaks)] }
def FnExactSymmetricPanelSaid : Prop := fnExactSymmetricPanelRow.holds Tryd.pinned (OpenSpec.ofChange fnExactSymmetricPanelSpec)

/-- ITS FALSE NEIGHBOUR: 'it returns false'. Refute it at one input. -/
def fnExactSymmetricPanelWrong : ChangeSpec := { name := "fnExactSymmetricPanel", vars := ["loop.example/g00931/impl.exchangedBreaks"], fn := fun _ => fun
  | [d1, d2, g1] => { results := [.lit (.bool false)], args := [d1, d2], vars := [g1] }
  | _ => none }
def FnExactSymmetricPanelWrongFalsely : Prop := fnExactSymmetricPanelRow.holds Tryd.pinned (OpenSpec.ofChange fnExactSymmetricPanelWrong)

/-- 'laws.FnCanonicals': WHATEVER THE INPUT: true; the input reads as it did. -/
def fnCanonicalsSpec : ChangeSpec := { name := "fnCanonicals", vars := ["loop.example/g00931/impl.exchangedBreaks"], fn := fun _ => fun
  | [d, g1] => { results := [.lit (.bool true)], args := [d], vars := [g1] }
  | _ => none }
def fnCanonicalsRow : OpenClaim := { program := "ytdofeonkgaceeaadoor", sum := "8d237d29cec7cbb3b79a775adbae70561145aa7a8065fffd68b7770b2db48269", func := "loop.example/g00931/laws.FnCanonicals", spec := "fnCanonicals", unfollowed := true, recurses := true, named := ["loop.example/g00931/impl.exchangedBreaks"], apart := false, laid := [("loop.example/g00931/impl.exchangedBreaks", laid_loop_example_g00931_impl_exchangedBreaks)] }
def FnCanonicalsSaid : Prop := fnCanonicalsRow.holds Tryd.pinned (OpenSpec.ofChange fnCanonicalsSpec)

/-- ITS FALSE NEIGHBOUR: 'it returns false'. Refute it at one input. -/
def fnCanonicalsWrong : ChangeSpec := { name := "fnCanonicals", vars := ["loop.example/g00931/impl.exchangedBreaks"], fn := fun _ => fun
  | [d, g1] => { results := [.lit (.bool false)], args := [d], vars := [g1] }
  | _ => none }
def FnCanonicalsWrongFalsely : Prop := fnCanonicalsRow.holds Tryd.pinned (OpenSpec.ofChange fnCanonicalsWrong)

/-- 'laws.FnOrbits': WHATEVER THE INPUT: true; the input reads as it did. -/
def fnOrbitsSpec : ChangeSpec := { name := "fnOrbits", vars := ["loop.example/g00931/impl.exchangedBreaks"], fn := fun _ => fun
  | [d, g1] => { results := [.lit (.bool true)], args := [d], vars := [g1] }
  | _ => none }
def fnOrbitsRow : OpenClaim := { program := "ytdofeonkgaceeaadoor", sum := "8d237d29cec7cbb3b79a775adbae70561145aa7a8065fffd68b7770b2db48269", func := "loop.example/g00931/laws.FnOrbits", spec := "fnOrbits", unfollowed := true, recurses := true, named := ["loop.example/g00931/impl.exchangedBreaks"], apart := false, laid := [("loop.example/g00931/impl.exchangedBreaks", laid_loop_example_g00931_impl_exchangedBreaks)] }
def FnOrbitsSaid : Prop := fnOrbitsRow.holds Tryd.pinned (OpenSpec.ofChange fnOrbitsSpec)

/-- ITS FALSE NEIGHBOUR: 'it returns false'. Refute it at one input. -/
def fnOrbitsWrong : ChangeSpec := { name := "fnOrbits", vars := ["loop.example/g00931/impl.exchangedBreaks"], fn := fun _ => fun
  | [d, g1] => { results := [.lit (.bool false)], args := [d], vars := [g1] }
  | _ => none }
def FnOrbitsWrongFalsely : Prop := fnOrbitsRow.holds Tryd.pinned (OpenSpec.ofChange fnOrbitsWrong)

/- THE SECOND FORM. 'bulk': how many values and letters a reading holds, each counted each time it is reached (what is shared counts as often as it is met; a slice's spare places count too). A statement '..UptoSaid' is the law's where the arguments, and the package variables that the reading takes, are together of bulk at most 1048576: NARROWER than '..Said'. Prove '..Said' where nothing that the law and all that it calls make is longer than what came in: it says more and counts as full. Else prove '..UptoSaid'. A law counts once. -/
mutual
def uptoBulk {H : Type} : DataW H → Nat
  | .lit (.string bytes) => bytes.length + 1
  | .lit _ => 1
  | .nil => 1
  | .ptr d => uptoBulk d + 1
  | .slice elems spare => uptoBulkAll elems + uptoBulkAll spare + 1
  | .agg parts => uptoBulkAll parts + 1
  | .iface _ d => uptoBulk d + 1
  | .map entries => uptoBulkEntries entries + 1
  | .held _ => 1
def uptoBulkAll {H : Type} : List (DataW H) → Nat
  | [] => 0
  | d :: r => uptoBulk d + uptoBulkAll r
def uptoBulkEntries {H : Type} : List (Lit × DataW H) → Nat
  | [] => 0
  | x :: r => uptoBulkEntry x + uptoBulkEntries r
def uptoBulkEntry {H : Type} : Lit × DataW H → Nat
  | (.string bytes, d) => bytes.length + uptoBulk d + 1
  | (_, d) => uptoBulk d + 1
 end
def uptoSmall : (H : Type) → List (DataW H) → Bool := fun _ ds => decide (uptoBulkAll ds ≤ 1048576)
def OpenSpec.upto (s : _root_.Go.ChangeSpec) : _root_.Go.OpenSpec := { _root_.Go.OpenSpec.ofChange s with cond := some uptoSmall }

/-- 'laws.FnExactMapPanel', WHERE WHAT IT READS IS OF BULK AT MOST 1048576: true; the input reads as it did. -/
def fnExactMapPanelUptoRow : OpenClaim := { program := "ytdofeonkgaceeaadoor", sum := "8d237d29cec7cbb3b79a775adbae70561145aa7a8065fffd68b7770b2db48269", func := "loop.example/g00931/laws.FnExactMapPanel", spec := "fnExactMapPanel", unfollowed := true, recurses := true, named := ["loop.example/g00931/impl.exchangedBreaks"], apart := false, laid := [("loop.example/g00931/impl.exchangedBreaks", laid_loop_example_g00931_impl_exchangedBreaks)], narrowed := true }
def FnExactMapPanelUptoSaid : Prop := fnExactMapPanelUptoRow.holds Tryd.pinned (OpenSpec.upto fnExactMapPanelSpec)

/-- 'laws.FnExactSymmetriesOf', WHERE WHAT IT READS IS OF BULK AT MOST 1048576: true; the input reads as it did. -/
def fnExactSymmetriesOfUptoRow : OpenClaim := { program := "ytdofeonkgaceeaadoor", sum := "8d237d29cec7cbb3b79a775adbae70561145aa7a8065fffd68b7770b2db48269", func := "loop.example/g00931/laws.FnExactSymmetriesOf", spec := "fnExactSymmetriesOf", unfollowed := true, recurses := true, named := ["loop.example/g00931/impl.exchangedBreaks"], apart := false, laid := [("loop.example/g00931/impl.exchangedBreaks", laid_loop_example_g00931_impl_exchangedBreaks)], narrowed := true }
def FnExactSymmetriesOfUptoSaid : Prop := fnExactSymmetriesOfUptoRow.holds Tryd.pinned (OpenSpec.upto fnExactSymmetriesOfSpec)

/-- 'laws.FnExactPointOrbit', WHERE WHAT IT READS IS OF BULK AT MOST 1048576: true; the input reads as it did. -/
def fnExactPointOrbitUptoRow : OpenClaim := { program := "ytdofeonkgaceeaadoor", sum := "8d237d29cec7cbb3b79a775adbae70561145aa7a8065fffd68b7770b2db48269", func := "loop.example/g00931/laws.FnExactPointOrbit", spec := "fnExactPointOrbit", unfollowed := true, recurses := true, named := ["loop.example/g00931/impl.exchangedBreaks"], apart := false, laid := [("loop.example/g00931/impl.exchangedBreaks", laid_loop_example_g00931_impl_exchangedBreaks)], narrowed := true }
def FnExactPointOrbitUptoSaid : Prop := fnExactPointOrbitUptoRow.holds Tryd.pinned (OpenSpec.upto fnExactPointOrbitSpec)

/-- 'laws.FnExactCanonicalPanel', WHERE WHAT IT READS IS OF BULK AT MOST 1048576: true; the input reads as it did. -/
def fnExactCanonicalPanelUptoRow : OpenClaim := { program := "ytdofeonkgaceeaadoor", sum := "8d237d29cec7cbb3b79a775adbae70561145aa7a8065fffd68b7770b2db48269", func := "loop.example/g00931/laws.FnExactCanonicalPanel", spec := "fnExactCanonicalPanel", unfollowed := true, recurses := true, named := ["loop.example/g00931/impl.exchangedBreaks"], apart := false, laid := [("loop.example/g00931/impl.exchangedBreaks", laid_loop_example_g00931_impl_exchangedBreaks)], narrowed := true }
def FnExactCanonicalPanelUptoSaid : Prop := fnExactCanonicalPanelUptoRow.holds Tryd.pinned (OpenSpec.upto fnExactCanonicalPanelSpec)

/-- 'laws.FnExactAlikePanels', WHERE WHAT IT READS IS OF BULK AT MOST 1048576: true; the input reads as it did. -/
def fnExactAlikePanelsUptoRow : OpenClaim := { program := "ytdofeonkgaceeaadoor", sum := "8d237d29cec7cbb3b79a775adbae70561145aa7a8065fffd68b7770b2db48269", func := "loop.example/g00931/laws.FnExactAlikePanels", spec := "fnExactAlikePanels", unfollowed := true, recurses := true, named := ["loop.example/g00931/impl.exchangedBreaks"], apart := false, laid := [("loop.example/g00931/impl.exchangedBreaks", laid_loop_example_g00931_impl_exchangedBreaks)], narrowed := true }
def FnExactAlikePanelsUptoSaid : Prop := fnExactAlikePanelsUptoRow.holds Tryd.pinned (OpenSpec.upto fnExactAlikePanelsSpec)

/-- 'laws.FnExactSymmetricPanel', WHERE WHAT IT READS IS OF BULK AT MOST 1048576: true; the input reads as it did. -/
def fnExactSymmetricPanelUptoRow : OpenClaim := { program := "ytdofeonkgaceeaadoor", sum := "8d237d29cec7cbb3b79a775adbae70561145aa7a8065fffd68b7770b2db48269", func := "loop.example/g00931/laws.FnExactSymmetricPanel", spec := "fnExactSymmetricPanel", unfollowed := true, recurses := true, named := ["loop.example/g00931/impl.exchangedBreaks"], apart := false, laid := [("loop.example/g00931/impl.exchangedBreaks", laid_loop_example_g00931_impl_exchangedBreaks)], narrowed := true }
def FnExactSymmetricPanelUptoSaid : Prop := fnExactSymmetricPanelUptoRow.holds Tryd.pinned (OpenSpec.upto fnExactSymmetricPanelSpec)

/-- 'laws.FnCanonicals', WHERE WHAT IT READS IS OF BULK AT MOST 1048576: true; the input reads as it did. -/
def fnCanonicalsUptoRow : OpenClaim := { program := "ytdofeonkgaceeaadoor", sum := "8d237d29cec7cbb3b79a775adbae70561145aa7a8065fffd68b7770b2db48269", func := "loop.example/g00931/laws.FnCanonicals", spec := "fnCanonicals", unfollowed := true, recurses := true, named := ["loop.example/g00931/impl.exchangedBreaks"], apart := false, laid := [("loop.example/g00931/impl.exchangedBreaks", laid_loop_example_g00931_impl_exchangedBreaks)], narrowed := true }
def FnCanonicalsUptoSaid : Prop := fnCanonicalsUptoRow.holds Tryd.pinned (OpenSpec.upto fnCanonicalsSpec)

/-- 'laws.FnOrbits', WHERE WHAT IT READS IS OF BULK AT MOST 1048576: true; the input reads as it did. -/
def fnOrbitsUptoRow : OpenClaim := { program := "ytdofeonkgaceeaadoor", sum := "8d237d29cec7cbb3b79a775adbae70561145aa7a8065fffd68b7770b2db48269", func := "loop.example/g00931/laws.FnOrbits", spec := "fnOrbits", unfollowed := true, recurses := true, named := ["loop.example/g00931/impl.exchangedBreaks"], apart := false, laid := [("loop.example/g00931/impl.exchangedBreaks", laid_loop_example_g00931_impl_exchangedBreaks)], narrowed := true }
def FnOrbitsUptoSaid : Prop := fnOrbitsUptoRow.holds Tryd.pinned (OpenSpec.upto fnOrbitsSpec)

end Rows
end Go.Proofs.YtdofeonkgaceeaaDoor
