/-
  NARROWER THAN 'FOR EVERY INPUT', by the rows' own cells (each row's printed sentence says how): FnExactStepWalker: laid · FnExactWalkSteps: laid · FnSteps: laid · FnExactCurvesThrough: laid · FnExactSelfCrossings: laid · FnExactCommonCrossings: laid · FnMeetings: laid · FnExactPairsOf: laid · FnExactJoinPanel: laid · FnPairsJoined: laid.
  DERIVED. THE GIVEN ROWS OF THIS SEAT. 10 by the template 'for every input the law returns true; each argument reads behind the call as it read before'; 0 by the template 'total and deterministic' (their statements: YtajikegfladelaaDoorTotals.lean).
  GIVEN WITH THE SEED: the statements are not yours to turn. If you find one false, say at which input.
  Laid BY PROGRAM, IN A SANDBOX (cutbox-rows.mjs): the forced cells as the released guide's own fill.sh prints them over the translation 545f87059b5aaa22… (all of the seat's roots in one cut). By AI agents, Wed Nov 11 2026. No macro, syntax, notation, axiom, sorry.
-/
import Derived.Test.YtajikegfladelaaDoorChecked
import GoSem.Claim
import GoSem.ClaimJoined
import GoSem.ClaimMapViews
import Derived.JoinedTies
import Derived.KernelRfl
namespace Go.Proofs.YtajikegfladelaaDoor
/- THE CELL 'sum', in the pinned program and in every row, IS THE sha256 OF THE DUMP (.gsa) THAT YtajikegfladelaaDoorProg.lean LOADS. Nothing in Lean hashes anything: it is a label: what it is worth is what the hold of that sum in a sandbox is worth. -/
noncomputable def Tryd.pinned : Pinned := { name := "ytajikegfladelaadoor", sum := "545f87059b5aaa2205089ef5c037b0002623b346d77003433640338296b3f717", checked := Tryd.checked }
namespace Rows
def none {H : Type} : Left H := { results := [], args := [] }

/- WHAT THE LISTED PACKAGE-LEVEL VARIABLES READ AS WHEN THE CALL BEGINS. Each datum BY PROGRAM (the guide's laid-datum.mjs) off the statement by which the dump's own 'gosem.cut.vars' lays the variable. In a bare row this is a premise. The card (YtajikegfladelaaDoorCards.lean) ties it to the program's text. -/
def laid_loop_example_g00931_impl_turns {H : Type} : DataW H := .agg [.agg [.lit (.int .i64 1), .lit (.int .i64 1)], .agg [.lit (.int .i64 (-1)), .lit (.int .i64 1)], .agg [.lit (.int .i64 1), .lit (.int .i64 (-1))]]
def laid_loop_example_g00931_impl_directions {H : Type} : DataW H := .agg [.agg [.lit (.int .i64 (-1)), .lit (.int .i64 (-1))], .agg [.lit (.int .i64 1), .lit (.int .i64 (-1))], .agg [.lit (.int .i64 (-1)), .lit (.int .i64 1)], .agg [.lit (.int .i64 1), .lit (.int .i64 1)]]
def laid_loop_example_g00931_impl_joinedDirections {H : Type} : DataW H := .agg [.agg [.agg [.lit (.int .i64 0), .lit (.int .i64 3)], .agg [.lit (.int .i64 1), .lit (.int .i64 2)]], .agg [.agg [.lit (.int .i64 0), .lit (.int .i64 2)], .agg [.lit (.int .i64 1), .lit (.int .i64 3)]], .agg [.agg [.lit (.int .i64 0), .lit (.int .i64 1)], .agg [.lit (.int .i64 2), .lit (.int .i64 3)]]]

/-- 'laws.FnExactStepWalker': WHATEVER THE INPUT: true; the input reads as it did. -/
def fnExactStepWalkerSpec : ChangeSpec := { name := "fnExactStepWalker", vars := ["loop.example/g00931/impl.turns"], fn := fun _ => fun
  | [d1, d2, g1] => { results := [.lit (.bool true)], args := [d1, d2], vars := [g1] }
  | _ => none }
def fnExactStepWalkerRow : OpenClaim := { program := "ytajikegfladelaadoor", sum := "545f87059b5aaa2205089ef5c037b0002623b346d77003433640338296b3f717", func := "loop.example/g00931/laws.FnExactStepWalker", spec := "fnExactStepWalker", named := ["loop.example/g00931/impl.turns"], apart := false, laid := [("loop.example/g00931/impl.turns", laid_loop_example_g00931_impl_turns)] }
def FnExactStepWalkerSaid : Prop := fnExactStepWalkerRow.holds Tryd.pinned (OpenSpec.ofChange fnExactStepWalkerSpec)

/-- ITS FALSE NEIGHBOUR: 'it returns false'. Refute it at one input. -/
def fnExactStepWalkerWrong : ChangeSpec := { name := "fnExactStepWalker", vars := ["loop.example/g00931/impl.turns"], fn := fun _ => fun
  | [d1, d2, g1] => { results := [.lit (.bool false)], args := [d1, d2], vars := [g1] }
  | _ => none }
def FnExactStepWalkerWrongFalsely : Prop := fnExactStepWalkerRow.holds Tryd.pinned (OpenSpec.ofChange fnExactStepWalkerWrong)

/-- 'laws.FnExactWalkSteps': WHATEVER THE INPUT: true; the input reads as it did. -/
def fnExactWalkStepsSpec : ChangeSpec := { name := "fnExactWalkSteps", vars := ["loop.example/g00931/impl.turns"], fn := fun _ => fun
  | [d1, d2, d3, g1] => { results := [.lit (.bool true)], args := [d1, d2, d3], vars := [g1] }
  | _ => none }
def fnExactWalkStepsRow : OpenClaim := { program := "ytajikegfladelaadoor", sum := "545f87059b5aaa2205089ef5c037b0002623b346d77003433640338296b3f717", func := "loop.example/g00931/laws.FnExactWalkSteps", spec := "fnExactWalkSteps", unfollowed := true, recurses := true, named := ["loop.example/g00931/impl.turns"], apart := false, laid := [("loop.example/g00931/impl.turns", laid_loop_example_g00931_impl_turns)] }
def FnExactWalkStepsSaid : Prop := fnExactWalkStepsRow.holds Tryd.pinned (OpenSpec.ofChange fnExactWalkStepsSpec)

/-- ITS FALSE NEIGHBOUR: 'it returns false'. Refute it at one input. -/
def fnExactWalkStepsWrong : ChangeSpec := { name := "fnExactWalkSteps", vars := ["loop.example/g00931/impl.turns"], fn := fun _ => fun
  | [d1, d2, d3, g1] => { results := [.lit (.bool false)], args := [d1, d2, d3], vars := [g1] }
  | _ => none }
def FnExactWalkStepsWrongFalsely : Prop := fnExactWalkStepsRow.holds Tryd.pinned (OpenSpec.ofChange fnExactWalkStepsWrong)

/-- 'laws.FnSteps': WHATEVER THE INPUT: true; the input reads as it did. -/
def fnStepsSpec : ChangeSpec := { name := "fnSteps", vars := ["loop.example/g00931/impl.turns"], fn := fun _ => fun
  | [d1, d2, g1] => { results := [.lit (.bool true)], args := [d1, d2], vars := [g1] }
  | _ => none }
def fnStepsRow : OpenClaim := { program := "ytajikegfladelaadoor", sum := "545f87059b5aaa2205089ef5c037b0002623b346d77003433640338296b3f717", func := "loop.example/g00931/laws.FnSteps", spec := "fnSteps", unfollowed := true, recurses := true, named := ["loop.example/g00931/impl.turns"], apart := false, laid := [("loop.example/g00931/impl.turns", laid_loop_example_g00931_impl_turns)] }
def FnStepsSaid : Prop := fnStepsRow.holds Tryd.pinned (OpenSpec.ofChange fnStepsSpec)

/-- ITS FALSE NEIGHBOUR: 'it returns false'. Refute it at one input. -/
def fnStepsWrong : ChangeSpec := { name := "fnSteps", vars := ["loop.example/g00931/impl.turns"], fn := fun _ => fun
  | [d1, d2, g1] => { results := [.lit (.bool false)], args := [d1, d2], vars := [g1] }
  | _ => none }
def FnStepsWrongFalsely : Prop := fnStepsRow.holds Tryd.pinned (OpenSpec.ofChange fnStepsWrong)

/-- 'laws.FnExactCurvesThrough': WHATEVER THE INPUT: true; the input reads as it did. -/
def fnExactCurvesThroughSpec : ChangeSpec := { name := "fnExactCurvesThrough", vars := ["loop.example/g00931/impl.turns", "loop.example/g00931/impl.directions"], fn := fun _ => fun
  | [d1, d2, g1, g2] => { results := [.lit (.bool true)], args := [d1, d2], vars := [g1, g2] }
  | _ => none }
def fnExactCurvesThroughRow : OpenClaim := { program := "ytajikegfladelaadoor", sum := "545f87059b5aaa2205089ef5c037b0002623b346d77003433640338296b3f717", func := "loop.example/g00931/laws.FnExactCurvesThrough", spec := "fnExactCurvesThrough", unfollowed := true, recurses := true, named := ["loop.example/g00931/impl.turns", "loop.example/g00931/impl.directions"], apart := false, laid := [("loop.example/g00931/impl.turns", laid_loop_example_g00931_impl_turns), ("loop.example/g00931/impl.directions", laid_loop_example_g00931_impl_directions)] }
def FnExactCurvesThroughSaid : Prop := fnExactCurvesThroughRow.holds Tryd.pinned (OpenSpec.ofChange fnExactCurvesThroughSpec)

/-- ITS FALSE NEIGHBOUR: 'it returns false'. Refute it at one input. -/
def fnExactCurvesThroughWrong : ChangeSpec := { name := "fnExactCurvesThrough", vars := ["loop.example/g00931/impl.turns", "loop.example/g00931/impl.directions"], fn := fun _ => fun
  | [d1, d2, g1, g2] => { results := [.lit (.bool false)], args := [d1, d2], vars := [g1, g2] }
  | _ => none }
def FnExactCurvesThroughWrongFalsely : Prop := fnExactCurvesThroughRow.holds Tryd.pinned (OpenSpec.ofChange fnExactCurvesThroughWrong)

/-- 'laws.FnExactSelfCrossings': WHATEVER THE INPUT: true; the input reads as it did. -/
def fnExactSelfCrossingsSpec : ChangeSpec := { name := "fnExactSelfCrossings", vars := ["loop.example/g00931/impl.turns", "loop.example/g00931/impl.directions"], fn := fun _ => fun
  | [d1, d2, g1, g2] => { results := [.lit (.bool true)], args := [d1, d2], vars := [g1, g2] }
  | _ => none }
def fnExactSelfCrossingsRow : OpenClaim := { program := "ytajikegfladelaadoor", sum := "545f87059b5aaa2205089ef5c037b0002623b346d77003433640338296b3f717", func := "loop.example/g00931/laws.FnExactSelfCrossings", spec := "fnExactSelfCrossings", unfollowed := true, recurses := true, named := ["loop.example/g00931/impl.turns", "loop.example/g00931/impl.directions"], apart := false, laid := [("loop.example/g00931/impl.turns", laid_loop_example_g00931_impl_turns), ("loop.example/g00931/impl.directions", laid_loop_example_g00931_impl_directions)] }
def FnExactSelfCrossingsSaid : Prop := fnExactSelfCrossingsRow.holds Tryd.pinned (OpenSpec.ofChange fnExactSelfCrossingsSpec)

/-- ITS FALSE NEIGHBOUR: 'it returns false'. Refute it at one input. -/
def fnExactSelfCrossingsWrong : ChangeSpec := { name := "fnExactSelfCrossings", vars := ["loop.example/g00931/impl.turns", "loop.example/g00931/impl.directions"], fn := fun _ => fun
  | [d1, d2, g1, g2] => { results := [.lit (.bool false)], args := [d1, d2], vars := [g1, g2] }
  | _ => none }
def FnExactSelfCrossingsWrongFalsely : Prop := fnExactSelfCrossingsRow.holds Tryd.pinned (OpenSpec.ofChange fnExactSelfCrossingsWrong)

/-- 'laws.FnExactCommonCrossings': WHATEVER THE INPUT: true; the input reads as it did. -/
def fnExactCommonCrossingsSpec : ChangeSpec := { name := "fnExactCommonCrossings", vars := ["loop.example/g00931/impl.turns", "loop.example/g00931/impl.directions"], fn := fun _ => fun
  | [d1, d2, d3, g1, g2] => { results := [.lit (.bool true)], args := [d1, d2, d3], vars := [g1, g2] }
  | _ => none }
def fnExactCommonCrossingsRow : OpenClaim := { program := "ytajikegfladelaadoor", sum := "545f87059b5aaa2205089ef5c037b0002623b346d77003433640338296b3f717", func := "loop.example/g00931/laws.FnExactCommonCrossings", spec := "fnExactCommonCrossings", unfollowed := true, recurses := true, named := ["loop.example/g00931/impl.turns", "loop.example/g00931/impl.directions"], apart := false, laid := [("loop.example/g00931/impl.turns", laid_loop_example_g00931_impl_turns), ("loop.example/g00931/impl.directions", laid_loop_example_g00931_impl_directions)] }
def FnExactCommonCrossingsSaid : Prop := fnExactCommonCrossingsRow.holds Tryd.pinned (OpenSpec.ofChange fnExactCommonCrossingsSpec)

/-- ITS FALSE NEIGHBOUR: 'it returns false'. Refute it at one input. -/
def fnExactCommonCrossingsWrong : ChangeSpec := { name := "fnExactCommonCrossings", vars := ["loop.example/g00931/impl.turns", "loop.example/g00931/impl.directions"], fn := fun _ => fun
  | [d1, d2, d3, g1, g2] => { results := [.lit (.bool false)], args := [d1, d2, d3], vars := [g1, g2] }
  | _ => none }
def FnExactCommonCrossingsWrongFalsely : Prop := fnExactCommonCrossingsRow.holds Tryd.pinned (OpenSpec.ofChange fnExactCommonCrossingsWrong)

/-- 'laws.FnMeetings': WHATEVER THE INPUT: true; the input reads as it did. -/
def fnMeetingsSpec : ChangeSpec := { name := "fnMeetings", vars := ["loop.example/g00931/impl.turns", "loop.example/g00931/impl.directions"], fn := fun _ => fun
  | [d1, d2, g1, g2] => { results := [.lit (.bool true)], args := [d1, d2], vars := [g1, g2] }
  | _ => none }
def fnMeetingsRow : OpenClaim := { program := "ytajikegfladelaadoor", sum := "545f87059b5aaa2205089ef5c037b0002623b346d77003433640338296b3f717", func := "loop.example/g00931/laws.FnMeetings", spec := "fnMeetings", unfollowed := true, recurses := true, named := ["loop.example/g00931/impl.turns", "loop.example/g00931/impl.directions"], apart := false, laid := [("loop.example/g00931/impl.turns", laid_loop_example_g00931_impl_turns), ("loop.example/g00931/impl.directions", laid_loop_example_g00931_impl_directions)] }
def FnMeetingsSaid : Prop := fnMeetingsRow.holds Tryd.pinned (OpenSpec.ofChange fnMeetingsSpec)

/-- ITS FALSE NEIGHBOUR: 'it returns false'. Refute it at one input. -/
def fnMeetingsWrong : ChangeSpec := { name := "fnMeetings", vars := ["loop.example/g00931/impl.turns", "loop.example/g00931/impl.directions"], fn := fun _ => fun
  | [d1, d2, g1, g2] => { results := [.lit (.bool false)], args := [d1, d2], vars := [g1, g2] }
  | _ => none }
def FnMeetingsWrongFalsely : Prop := fnMeetingsRow.holds Tryd.pinned (OpenSpec.ofChange fnMeetingsWrong)

/-- 'laws.FnExactPairsOf': WHATEVER THE INPUT: true; the input reads as it did. -/
def fnExactPairsOfSpec : ChangeSpec := { name := "fnExactPairsOf", vars := ["loop.example/g00931/impl.joinedDirections", "loop.example/g00931/impl.directions"], fn := fun _ => fun
  | [d, g1, g2] => { results := [.lit (.bool true)], args := [d], vars := [g1, g2] }
  | _ => none }
def fnExactPairsOfRow : OpenClaim := { program := "ytajikegfladelaadoor", sum := "545f87059b5aaa2205089ef5c037b0002623b346d77003433640338296b3f717", func := "loop.example/g00931/laws.FnExactPairsOf", spec := "fnExactPairsOf", unfollowed := true, recurses := true, named := ["loop.example/g00931/impl.joinedDirections", "loop.example/g00931/impl.directions"], apart := false, laid := [("loop.example/g00931/impl.directions", laid_loop_example_g00931_impl_directions), ("loop.example/g00931/impl.joinedDirections", laid_loop_example_g00931_impl_joinedDirections)] }
def FnExactPairsOfSaid : Prop := fnExactPairsOfRow.holds Tryd.pinned (OpenSpec.ofChange fnExactPairsOfSpec)

/-- ITS FALSE NEIGHBOUR: 'it returns false'. Refute it at one input. -/
def fnExactPairsOfWrong : ChangeSpec := { name := "fnExactPairsOf", vars := ["loop.example/g00931/impl.joinedDirections", "loop.example/g00931/impl.directions"], fn := fun _ => fun
  | [d, g1, g2] => { results := [.lit (.bool false)], args := [d], vars := [g1, g2] }
  | _ => none }
def FnExactPairsOfWrongFalsely : Prop := fnExactPairsOfRow.holds Tryd.pinned (OpenSpec.ofChange fnExactPairsOfWrong)

/-- 'laws.FnExactJoinPanel': WHATEVER THE INPUT: true; the input reads as it did. -/
def fnExactJoinPanelSpec : ChangeSpec := { name := "fnExactJoinPanel", vars := ["loop.example/g00931/impl.joinedDirections", "loop.example/g00931/impl.directions"], fn := fun _ => fun
  | [d, g1, g2] => { results := [.lit (.bool true)], args := [d], vars := [g1, g2] }
  | _ => none }
def fnExactJoinPanelRow : OpenClaim := { program := "ytajikegfladelaadoor", sum := "545f87059b5aaa2205089ef5c037b0002623b346d77003433640338296b3f717", func := "loop.example/g00931/laws.FnExactJoinPanel", spec := "fnExactJoinPanel", unfollowed := true, recurses := true, named := ["loop.example/g00931/impl.joinedDirections", "loop.example/g00931/impl.directions"], apart := false, laid := [("loop.example/g00931/impl.directions", laid_loop_example_g00931_impl_directions), ("loop.example/g00931/impl.joinedDirections", laid_loop_example_g00931_impl_joinedDirections)] }
def FnExactJoinPanelSaid : Prop := fnExactJoinPanelRow.holds Tryd.pinned (OpenSpec.ofChange fnExactJoinPanelSpec)

/-- ITS FALSE NEIGHBOUR: 'it returns false'. Refute it at one input. -/
def fnExactJoinPanelWrong : ChangeSpec := { name := "fnExactJoinPanel", vars := ["loop.example/g00931/impl.joinedDirections", "loop.example/g00931/impl.directions"], fn := fun _ => fun
  | [d, g1, g2] => { results := [.lit (.bool false)], args := [d], vars := [g1, g2] }
  | _ => none }
def FnExactJoinPanelWrongFalsely : Prop := fnExactJoinPanelRow.holds Tryd.pinned (OpenSpec.ofChange fnExactJoinPanelWrong)

/-- 'laws.FnPairsJoined': WHATEVER THE INPUT: true; the input reads as it did. -/
def fnPairsJoinedSpec : ChangeSpec := { name := "fnPairsJoined", vars := ["loop.example/g00931/impl.joinedDirections", "loop.example/g00931/impl.directions"], fn := fun _ => fun
  | [d, g1, g2] => { results := [.lit (.bool true)], args := [d], vars := [g1, g2] }
  | _ => none }
def fnPairsJoinedRow : OpenClaim := { program := "ytajikegfladelaadoor", sum := "545f87059b5aaa2205089ef5c037b0002623b346d77003433640338296b3f717", func := "loop.example/g00931/laws.FnPairsJoined", spec := "fnPairsJoined", unfollowed := true, recurses := true, named := ["loop.example/g00931/impl.joinedDirections", "loop.example/g00931/impl.directions"], apart := false, laid := [("loop.example/g00931/impl.directions", laid_loop_example_g00931_impl_directions), ("loop.example/g00931/impl.joinedDirections", laid_loop_example_g00931_impl_joinedDirections)] }
def FnPairsJoinedSaid : Prop := fnPairsJoinedRow.holds Tryd.pinned (OpenSpec.ofChange fnPairsJoinedSpec)

/-- ITS FALSE NEIGHBOUR: 'it returns false'. Refute it at one input. -/
def fnPairsJoinedWrong : ChangeSpec := { name := "fnPairsJoined", vars := ["loop.example/g00931/impl.joinedDirections", "loop.example/g00931/impl.directions"], fn := fun _ => fun
  | [d, g1, g2] => { results := [.lit (.bool false)], args := [d], vars := [g1, g2] }
  | _ => none }
def FnPairsJoinedWrongFalsely : Prop := fnPairsJoinedRow.holds Tryd.pinned (OpenSpec.ofChange fnPairsJoinedWrong)

/- THE SECOND FORM. 'bulk': how many values and letters a reading holds, each counted each time it is reached (what is shared counts as often as it is met; a slice's spare places count too). A statement '..UptoSaid' is the law's where the arguments, and the package variables that the reading takes, are together of bulk at most 1048576: NARROWER than '..Said'. Prove '..Said' where nothing that the law and all that it calls make is longer than what came in: it says more and counts as full. Else prove '..UptoSaid'. A law counts once. -/
mutual
def uptoBulk {H : Type} : DataW H → Nat
  | .lit (.string bytes) => bytes.length + 1
  | .lit _ => 1
  | .nil => 1
  | .ptr d => uptoBulk d + 1
  | .slice elems spare => uptoBulkAll elems + uptoBulkAll spare + 1
  | .agg parts => uptoBulkAll parts + 1
  | .iface _ d => uptoBulk d + 1
  | .map entries => uptoBulkEntries entries + 1
  | .held _ => 1
def uptoBulkAll {H : Type} : List (DataW H) → Nat
  | [] => 0
  | d :: r => uptoBulk d + uptoBulkAll r
def uptoBulkEntries {H : Type} : List (Lit × DataW H) → Nat
  | [] => 0
  | x :: r => uptoBulkEntry x + uptoBulkEntries r
def uptoBulkEntry {H : Type} : Lit × DataW H → Nat
  | (.string bytes, d) => bytes.length + uptoBulk d + 1
  | (_, d) => uptoBulk d + 1
 end
def uptoSmall : (H : Type) → List (DataW H) → Bool := fun _ ds => decide (uptoBulkAll ds ≤ 1048576)
def OpenSpec.upto (s : _root_.Go.ChangeSpec) : _root_.Go.OpenSpec := { _root_.Go.OpenSpec.ofChange s with cond := some uptoSmall }

/-- 'laws.FnExactStepWalker', WHERE WHAT IT READS IS OF BULK AT MOST 1048576: true; the input reads as it did. -/
def fnExactStepWalkerUptoRow : OpenClaim := { program := "ytajikegfladelaadoor", sum := "545f87059b5aaa2205089ef5c037b0002623b346d77003433640338296b3f717", func := "loop.example/g00931/laws.FnExactStepWalker", spec := "fnExactStepWalker", named := ["loop.example/g00931/impl.turns"], apart := false, laid := [("loop.example/g00931/impl.turns", laid_loop_example_g00931_impl_turns)], narrowed := true }
def FnExactStepWalkerUptoSaid : Prop := fnExactStepWalkerUptoRow.holds Tryd.pinned (OpenSpec.upto fnExactStepWalkerSpec)

/-- 'laws.FnExactWalkSteps', WHERE WHAT IT READS IS OF BULK AT MOST 1048576: true; the input reads as it did. -/
def fnExactWalkStepsUptoRow : OpenClaim := { program := "ytajikegfladelaadoor", sum := "545f87059b5aaa2205089ef5c037b0002623b346d77003433640338296b3f717", func := "loop.example/g00931/laws.FnExactWalkSteps", spec := "fnExactWalkSteps", unfollowed := true, recurses := true, named := ["loop.example/g00931/impl.turns"], apart := false, laid := [("loop.example/g00931/impl.turns", laid_loop_example_g00931_impl_turns)], narrowed := true }
def FnExactWalkStepsUptoSaid : Prop := fnExactWalkStepsUptoRow.holds Tryd.pinned (OpenSpec.upto fnExactWalkStepsSpec)

/-- 'laws.FnSteps', WHERE WHAT IT READS IS OF BULK AT MOST 1048576: true; the input reads as it did. -/
def fnStepsUptoRow : OpenClaim := { program := "ytajikegfladelaadoor", sum := "545f87059b5aaa2205089ef5c037b0002623b346d77003433640338296b3f717", func := "loop.example/g00931/laws.FnSteps", spec := "fnSteps", unfollowed := true, recurses := true, named := ["loop.example/g00931/impl.turns"], apart := false, laid := [("loop.example/g00931/impl.turns", laid_loop_example_g00931_impl_turns)], narrowed := true }
def FnStepsUptoSaid : Prop := fnStepsUptoRow.holds Tryd.pinned (OpenSpec.upto fnStepsSpec)

/-- 'laws.FnExactCurvesThrough', WHERE WHAT IT READS IS OF BULK AT MOST 1048576: true; the input reads as it did. -/
def fnExactCurvesThroughUptoRow : OpenClaim := { program := "ytajikegfladelaadoor", sum := "545f87059b5aaa2205089ef5c037b0002623b346d77003433640338296b3f717", func := "loop.example/g00931/laws.FnExactCurvesThrough", spec := "fnExactCurvesThrough", unfollowed := true, recurses := true, named := ["loop.example/g00931/impl.turns", "loop.example/g00931/impl.directions"], apart := false, laid := [("loop.example/g00931/impl.turns", laid_loop_example_g00931_impl_turns), ("loop.example/g00931/impl.directions", laid_loop_example_g00931_impl_directions)], narrowed := true }
def FnExactCurvesThroughUptoSaid : Prop := fnExactCurvesThroughUptoRow.holds Tryd.pinned (OpenSpec.upto fnExactCurvesThroughSpec)

/-- 'laws.FnExactSelfCrossings', WHERE WHAT IT READS IS OF BULK AT MOST 1048576: true; the input reads as it did. -/
def fnExactSelfCrossingsUptoRow : OpenClaim := { program := "ytajikegfladelaadoor", sum := "545f87059b5aaa2205089ef5c037b0002623b346d77003433640338296b3f717", func := "loop.example/g00931/laws.FnExactSelfCrossings", spec := "fnExactSelfCrossings", unfollowed := true, recurses := true, named := ["loop.example/g00931/impl.turns", "loop.example/g00931/impl.directions"], apart := false, laid := [("loop.example/g00931/impl.turns", laid_loop_example_g00931_impl_turns), ("loop.example/g00931/impl.directions", laid_loop_example_g00931_impl_directions)], narrowed := true }
def FnExactSelfCrossingsUptoSaid : Prop := fnExactSelfCrossingsUptoRow.holds Tryd.pinned (OpenSpec.upto fnExactSelfCrossingsSpec)

/-- 'laws.FnExactCommonCrossings', WHERE WHAT IT READS IS OF BULK AT MOST 1048576: true; the input reads as it did. -/
def fnExactCommonCrossingsUptoRow : OpenClaim := { program := "ytajikegfladelaadoor", sum := "545f87059b5aaa2205089ef5c037b0002623b346d77003433640338296b3f717", func := "loop.example/g00931/laws.FnExactCommonCrossings", spec := "fnExactCommonCrossings", unfollowed := true, recurses := true, named := ["loop.example/g00931/impl.turns", "loop.example/g00931/impl.directions"], apart := false, laid := [("loop.example/g00931/impl.turns", laid_loop_example_g00931_impl_turns), ("loop.example/g00931/impl.directions", laid_loop_example_g00931_impl_directions)], narrowed := true }
def FnExactCommonCrossingsUptoSaid : Prop := fnExactCommonCrossingsUptoRow.holds Tryd.pinned (OpenSpec.upto fnExactCommonCrossingsSpec)

/-- 'laws.FnMeetings', WHERE WHAT IT READS IS OF BULK AT MOST 1048576: true; the input reads as it did. -/
def fnMeetingsUptoRow : OpenClaim := { program := "ytajikegfladelaadoor", sum := "545f87059b5aaa2205089ef5c037b0002623b346d77003433640338296b3f717", func := "loop.example/g00931/laws.FnMeetings", spec := "fnMeetings", unfollowed := true, recurses := true, named := ["loop.example/g00931/impl.turns", "loop.example/g00931/impl.directions"], apart := false, laid := [("loop.example/g00931/impl.turns", laid_loop_example_g00931_impl_turns), ("loop.example/g00931/impl.directions", laid_loop_example_g00931_impl_directions)], narrowed := true }
def FnMeetingsUptoSaid : Prop := fnMeetingsUptoRow.holds Tryd.pinned (OpenSpec.upto fnMeetingsSpec)

/-- 'laws.FnExactPairsOf', WHERE WHAT IT READS IS OF BULK AT MOST 1048576: true; the input reads as it did. -/
def fnExactPairsOfUptoRow : OpenClaim := { program := "ytajikegfladelaadoor", sum := "545f87059b5aaa2205089ef5c037b0002623b346d77003433640338296b3f717", func := "loop.example/g00931/laws.FnExactPairsOf", spec := "fnExactPairsOf", unfollowed := true, recurses := true, named := ["loop.example/g00931/impl.joinedDirections", "loop.example/g00931/impl.directions"], apart := false, laid := [("loop.example/g00931/impl.directions", laid_loop_example_g00931_impl_directions), ("loop.example/g00931/impl.joinedDirections", laid_loop_example_g00931_impl_joinedDirections)], narrowed := true }
def FnExactPairsOfUptoSaid : Prop := fnExactPairsOfUptoRow.holds Tryd.pinned (OpenSpec.upto fnExactPairsOfSpec)

/-- 'laws.FnExactJoinPanel', WHERE WHAT IT READS IS OF BULK AT MOST 1048576: true; the input reads as it did. -/
def fnExactJoinPanelUptoRow : OpenClaim := { program := "ytajikegfladelaadoor", sum := "545f87059b5aaa2205089ef5c037b0002623b346d77003433640338296b3f717", func := "loop.example/g00931/laws.FnExactJoinPanel", spec := "fnExactJoinPanel", unfollowed := true, recurses := true, named := ["loop.example/g00931/impl.joinedDirections", "loop.example/g00931/impl.directions"], apart := false, laid := [("loop.example/g00931/impl.directions", laid_loop_example_g00931_impl_directions), ("loop.example/g00931/impl.joinedDirections", laid_loop_example_g00931_impl_joinedDirections)], narrowed := true }
def FnExactJoinPanelUptoSaid : Prop := fnExactJoinPanelUptoRow.holds Tryd.pinned (OpenSpec.upto fnExactJoinPanelSpec)

/-- 'laws.FnPairsJoined', WHERE WHAT IT READS IS OF BULK AT MOST 1048576: true; the input reads as it did. -/
def fnPairsJoinedUptoRow : OpenClaim := { program := "ytajikegfladelaadoor", sum := "545f87059b5aaa2205089ef5c037b0002623b346d77003433640338296b3f717", func := "loop.example/g00931/laws.FnPairsJoined", spec := "fnPairsJoined", unfollowed := true, recurses := true, named := ["loop.example/g00931/impl.joinedDirections", "loop.example/g00931/impl.directions"], apart := false, laid := [("loop.example/g00931/impl.directions", laid_loop_example_g00931_impl_directions), ("loop.example/g00931/impl.joinedDirections", laid_loop_example_g00931_impl_joinedDirections)], narrowed := true }
def FnPairsJoinedUptoSaid : Prop := fnPairsJoinedUptoRow.holds Tryd.pinned (OpenSpec.upto fnPairsJoinedSpec)

end Rows
end Go.Proofs.YtajikegfladelaaDoor
