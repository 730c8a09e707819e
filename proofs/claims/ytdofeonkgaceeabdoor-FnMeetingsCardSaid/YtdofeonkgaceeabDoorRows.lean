/-
  NARROWER THAN 'FOR EVERY INPUT', by the rows' own cells (each row's printed sentence says how): FnExactCountCurves: laid · FnExactCurveAt: laid · FnExactCurveLengths: laid · FnExactSegmentCurves: laid · FnExactCurvesThrough: laid · FnExactSelfCrossings: laid · FnExactCommonCrossings: laid · FnExactIsSingle: laid · FnExactTouchesOf: laid · FnMeetings: laid · FnExactCurvePicture: laid · FnCurvePictures: laid.
  DERIVED. THE GIVEN ROWS OF THIS SEAT. 12 by the template 'for every input the law returns true; each argument reads behind the call as it read before'; 0 by the template 'total and deterministic' (their statements: YtdofeonkgaceeabDoorTotals.lean).
  GIVEN WITH THE SEED: the statements are not yours to turn. If you find one false, say at which input.
  Laid BY PROGRAM, IN A SANDBOX (cutbox-rows.mjs): the forced cells as the released guide's own fill.sh prints them over the translation 34ee0024156f90bb… (all of the seat's roots in one cut). By AI agents, Wed Nov 11 2026. No macro, syntax, notation, axiom, sorry.
-/
import Derived.Test.YtdofeonkgaceeabDoorChecked
import GoSem.Claim
import GoSem.ClaimJoined
import GoSem.ClaimMapViews
import Derived.JoinedTies
import Derived.KernelRfl
namespace Go.Proofs.YtdofeonkgaceeabDoor
/- THE CELL 'sum', in the pinned program and in every row, IS THE sha256 OF THE DUMP (.gsa) THAT YtdofeonkgaceeabDoorProg.lean LOADS. Nothing in Lean hashes anything: it is a label: what it is worth is what the hold of that sum in a sandbox is worth. -/
noncomputable def Tryd.pinned : Pinned := { name := "ytdofeonkgaceeabdoor", sum := "34ee0024156f90bbf9be7747b29da905ad1a0aa201fcd6e48bb9e2491994fc38", checked := Tryd.checked }
namespace Rows
def none {H : Type} : Left H := { results := [], args := [] }

/- WHAT THE LISTED PACKAGE-LEVEL VARIABLES READ AS WHEN THE CALL BEGINS. Each datum BY PROGRAM (the guide's laid-datum.mjs) off the statement by which the dump's own 'gosem.cut.vars' lays the variable. In a bare row this is a premise. The card (YtdofeonkgaceeabDoorCards.lean) ties it to the program's text. -/
def laid_loop_example_g00931_impl_turns {H : Type} : DataW H := .agg [.agg [.lit (.int .i64 1), .lit (.int .i64 1)], .agg [.lit (.int .i64 (-1)), .lit (.int .i64 1)], .agg [.lit (.int .i64 1), .lit (.int .i64 (-1))]]
def laid_loop_example_g00931_impl_directions {H : Type} : DataW H := .agg [.agg [.lit (.int .i64 (-1)), .lit (.int .i64 (-1))], .agg [.lit (.int .i64 1), .lit (.int .i64 (-1))], .agg [.lit (.int .i64 (-1)), .lit (.int .i64 1)], .agg [.lit (.int .i64 1), .lit (.int .i64 1)]]
def laid_loop_example_g00931_impl_pictureFaultNames {H : Type} : DataW H := .agg [.lit (.string [110, 111, 110, 101]), .lit (.string [115, 105, 122, 101]), .lit (.string [108, 101, 110, 103, 116, 104]), .lit (.string [105, 110, 110, 101, 114]), .lit (.string [98, 111, 114, 100, 101, 114]), .lit (.string [98, 108, 97, 110, 107])]

/-- 'laws.FnExactCountCurves': WHATEVER THE INPUT: true; the input reads as it did. -/
def fnExactCountCurvesSpec : ChangeSpec := { name := "fnExactCountCurves", vars := ["loop.example/g00931/impl.turns"], fn := fun _ => fun
  | [d, g1] => { results := [.lit (.bool true)], args := [d], vars := [g1] }
  | _ => none }
def fnExactCountCurvesRow : OpenClaim := { program := "ytdofeonkgaceeabdoor", sum := "34ee0024156f90bbf9be7747b29da905ad1a0aa201fcd6e48bb9e2491994fc38", func := "loop.example/g00931/laws.FnExactCountCurves", spec := "fnExactCountCurves", unfollowed := true, recurses := true, named := ["loop.example/g00931/impl.turns"], plainKeys := false, apart := false, laid := [("loop.example/g00931/impl.turns", laid_loop_example_g00931_impl_turns)] }
def FnExactCountCurvesSaid : Prop := fnExactCountCurvesRow.holds Tryd.pinned (OpenSpec.ofChange fnExactCountCurvesSpec)

/-- ITS FALSE NEIGHBOUR: 'it returns false'. Refute it at one input. -/
def fnExactCountCurvesWrong : ChangeSpec := { name := "fnExactCountCurves", vars := ["loop.example/g00931/impl.turns"], fn := fun _ => fun
  | [d, g1] => { results := [.lit (.bool false)], args := [d], vars := [g1] }
  | _ => none }
def FnExactCountCurvesWrongFalsely : Prop := fnExactCountCurvesRow.holds Tryd.pinned (OpenSpec.ofChange fnExactCountCurvesWrong)

/-- 'laws.FnExactCurveAt': WHATEVER THE INPUT: true; the input reads as it did. -/
def fnExactCurveAtSpec : ChangeSpec := { name := "fnExactCurveAt", vars := ["loop.example/g00931/impl.turns"], fn := fun _ => fun
  | [d1, d2, g1] => { results := [.lit (.bool true)], args := [d1, d2], vars := [g1] }
  | _ => none }
def fnExactCurveAtRow : OpenClaim := { program := "ytdofeonkgaceeabdoor", sum := "34ee0024156f90bbf9be7747b29da905ad1a0aa201fcd6e48bb9e2491994fc38", func := "loop.example/g00931/laws.FnExactCurveAt", spec := "fnExactCurveAt", unfollowed := true, recurses := true, named := ["loop.example/g00931/impl.turns"], plainKeys := false, apart := false, laid := [("loop.example/g00931/impl.turns", laid_loop_example_g00931_impl_turns)] }
def FnExactCurveAtSaid : Prop := fnExactCurveAtRow.holds Tryd.pinned (OpenSpec.ofChange fnExactCurveAtSpec)

/-- ITS FALSE NEIGHBOUR: 'it returns false'. Refute it at one input. -/
def fnExactCurveAtWrong : ChangeSpec := { name := "fnExactCurveAt", vars := ["loop.example/g00931/impl.turns"], fn := fun _ => fun
  | [d1, d2, g1] => { results := [.lit (.bool false)], args := [d1, d2], vars := [g1] }
  | _ => none }
def FnExactCurveAtWrongFalsely : Prop := fnExactCurveAtRow.holds Tryd.pinned (OpenSpec.ofChange fnExactCurveAtWrong)

/-- 'laws.FnExactCurveLengths': WHATEVER THE INPUT: true; the input reads as it did. -/
def fnExactCurveLengthsSpec : ChangeSpec := { name := "fnExactCurveLengths", vars := ["loop.example/g00931/impl.turns"], fn := fun _ => fun
  | [d, g1] => { results := [.lit (.bool true)], args := [d], vars := [g1] }
  | _ => none }
def fnExactCurveLengthsRow : OpenClaim := { program := "ytdofeonkgaceeabdoor", sum := "34ee0024156f90bbf9be7747b29da905ad1a0aa201fcd6e48bb9e2491994fc38", func := "loop.example/g00931/laws.FnExactCurveLengths", spec := "fnExactCurveLengths", unfollowed := true, recurses := true, named := ["loop.example/g00931/impl.turns"], plainKeys := false, apart := false, laid := [("loop.example/g00931/impl.turns", laid_loop_example_g00931_impl_turns)] }
def FnExactCurveLengthsSaid : Prop := fnExactCurveLengthsRow.holds Tryd.pinned (OpenSpec.ofChange fnExactCurveLengthsSpec)

/-- ITS FALSE NEIGHBOUR: 'it returns false'. Refute it at one input. -/
def fnExactCurveLengthsWrong : ChangeSpec := { name := "fnExactCurveLengths", vars := ["loop.example/g00931/impl.turns"], fn := fun _ => fun
  | [d, g1] => { results := [.lit (.bool false)], args := [d], vars := [g1] }
  | _ => none }
def FnExactCurveLengthsWrongFalsely : Prop := fnExactCurveLengthsRow.holds Tryd.pinned (OpenSpec.ofChange fnExactCurveLengthsWrong)

/-- 'laws.FnExactSegmentCurves': WHATEVER THE INPUT: true; the input reads as it did. -/
def fnExactSegmentCurvesSpec : ChangeSpec := { name := "fnExactSegmentCurves", vars := ["loop.example/g00931/impl.turns"], fn := fun _ => fun
  | [d, g1] => { results := [.lit (.bool true)], args := [d], vars := [g1] }
  | _ => none }
def fnExactSegmentCurvesRow : OpenClaim := { program := "ytdofeonkgaceeabdoor", sum := "34ee0024156f90bbf9be7747b29da905ad1a0aa201fcd6e48bb9e2491994fc38", func := "loop.example/g00931/laws.FnExactSegmentCurves", spec := "fnExactSegmentCurves", unfollowed := true, recurses := true, named := ["loop.example/g00931/impl.turns"], plainKeys := false, apart := false, laid := [("loop.example/g00931/impl.turns", laid_loop_example_g00931_impl_turns)] }
def FnExactSegmentCurvesSaid : Prop := fnExactSegmentCurvesRow.holds Tryd.pinned (OpenSpec.ofChange fnExactSegmentCurvesSpec)

/-- ITS FALSE NEIGHBOUR: 'it returns false'. Refute it at one input. -/
def fnExactSegmentCurvesWrong : ChangeSpec := { name := "fnExactSegmentCurves", vars := ["loop.example/g00931/impl.turns"], fn := fun _ => fun
  | [d, g1] => { results := [.lit (.bool false)], args := [d], vars := [g1] }
  | _ => none }
def FnExactSegmentCurvesWrongFalsely : Prop := fnExactSegmentCurvesRow.holds Tryd.pinned (OpenSpec.ofChange fnExactSegmentCurvesWrong)

/-- 'laws.FnExactCurvesThrough': WHATEVER THE INPUT: true; the input reads as it did. -/
def fnExactCurvesThroughSpec : ChangeSpec := { name := "fnExactCurvesThrough", vars := ["loop.example/g00931/impl.turns", "loop.example/g00931/impl.directions"], fn := fun _ => fun
  | [d1, d2, g1, g2] => { results := [.lit (.bool true)], args := [d1, d2], vars := [g1, g2] }
  | _ => none }
def fnExactCurvesThroughRow : OpenClaim := { program := "ytdofeonkgaceeabdoor", sum := "34ee0024156f90bbf9be7747b29da905ad1a0aa201fcd6e48bb9e2491994fc38", func := "loop.example/g00931/laws.FnExactCurvesThrough", spec := "fnExactCurvesThrough", unfollowed := true, recurses := true, named := ["loop.example/g00931/impl.turns", "loop.example/g00931/impl.directions"], plainKeys := false, apart := false, laid := [("loop.example/g00931/impl.turns", laid_loop_example_g00931_impl_turns), ("loop.example/g00931/impl.directions", laid_loop_example_g00931_impl_directions)] }
def FnExactCurvesThroughSaid : Prop := fnExactCurvesThroughRow.holds Tryd.pinned (OpenSpec.ofChange fnExactCurvesThroughSpec)

/-- ITS FALSE NEIGHBOUR: 'it returns false'. Refute it at one input. -/
def fnExactCurvesThroughWrong : ChangeSpec := { name := "fnExactCurvesThrough", vars := ["loop.example/g00931/impl.turns", "loop.example/g00931/impl.directions"], fn := fun _ => fun
  | [d1, d2, g1, g2] => { results := [.lit (.bool false)], args := [d1, d2], vars := [g1, g2] }
  | _ => none }
def FnExactCurvesThroughWrongFalsely : Prop := fnExactCurvesThroughRow.holds Tryd.pinned (OpenSpec.ofChange fnExactCurvesThroughWrong)

/-- 'laws.FnExactSelfCrossings': WHATEVER THE INPUT: true; the input reads as it did. -/
def fnExactSelfCrossingsSpec : ChangeSpec := { name := "fnExactSelfCrossings", vars := ["loop.example/g00931/impl.turns", "loop.example/g00931/impl.directions"], fn := fun _ => fun
  | [d1, d2, g1, g2] => { results := [.lit (.bool true)], args := [d1, d2], vars := [g1, g2] }
  | _ => none }
def fnExactSelfCrossingsRow : OpenClaim := { program := "ytdofeonkgaceeabdoor", sum := "34ee0024156f90bbf9be7747b29da905ad1a0aa201fcd6e48bb9e2491994fc38", func := "loop.example/g00931/laws.FnExactSelfCrossings", spec := "fnExactSelfCrossings", unfollowed := true, recurses := true, named := ["loop.example/g00931/impl.turns", "loop.example/g00931/impl.directions"], plainKeys := false, apart := false, laid := [("loop.example/g00931/impl.turns", laid_loop_example_g00931_impl_turns), ("loop.example/g00931/impl.directions", laid_loop_example_g00931_impl_directions)] }
def FnExactSelfCrossingsSaid : Prop := fnExactSelfCrossingsRow.holds Tryd.pinned (OpenSpec.ofChange fnExactSelfCrossingsSpec)

/-- ITS FALSE NEIGHBOUR: 'it returns false'. Refute it at one input. -/
def fnExactSelfCrossingsWrong : ChangeSpec := { name := "fnExactSelfCrossings", vars := ["loop.example/g00931/impl.turns", "loop.example/g00931/impl.directions"], fn := fun _ => fun
  | [d1, d2, g1, g2] => { results := [.lit (.bool false)], args := [d1, d2], vars := [g1, g2] }
  | _ => none }
def FnExactSelfCrossingsWrongFalsely : Prop := fnExactSelfCrossingsRow.holds Tryd.pinned (OpenSpec.ofChange fnExactSelfCrossingsWrong)

/-- 'laws.FnExactCommonCrossings': WHATEVER THE INPUT: true; the input reads as it did. -/
def fnExactCommonCrossingsSpec : ChangeSpec := { name := "fnExactCommonCrossings", vars := ["loop.example/g00931/impl.turns", "loop.example/g00931/impl.directions"], fn := fun _ => fun
  | [d1, d2, d3, g1, g2] => { results := [.lit (.bool true)], args := [d1, d2, d3], vars := [g1, g2] }
  | _ => none }
def fnExactCommonCrossingsRow : OpenClaim := { program := "ytdofeonkgaceeabdoor", sum := "34ee0024156f90bbf9be7747b29da905ad1a0aa201fcd6e48bb9e2491994fc38", func := "loop.example/g00931/laws.FnExactCommonCrossings", spec := "fnExactCommonCrossings", unfollowed := true, recurses := true, named := ["loop.example/g00931/impl.turns", "loop.example/g00931/impl.directions"], plainKeys := false, apart := false, laid := [("loop.example/g00931/impl.turns", laid_loop_example_g00931_impl_turns), ("loop.example/g00931/impl.directions", laid_loop_example_g00931_impl_directions)] }
def FnExactCommonCrossingsSaid : Prop := fnExactCommonCrossingsRow.holds Tryd.pinned (OpenSpec.ofChange fnExactCommonCrossingsSpec)

/-- ITS FALSE NEIGHBOUR: 'it returns false'. Refute it at one input. -/
def fnExactCommonCrossingsWrong : ChangeSpec := { name := "fnExactCommonCrossings", vars := ["loop.example/g00931/impl.turns", "loop.example/g00931/impl.directions"], fn := fun _ => fun
  | [d1, d2, d3, g1, g2] => { results := [.lit (.bool false)], args := [d1, d2, d3], vars := [g1, g2] }
  | _ => none }
def FnExactCommonCrossingsWrongFalsely : Prop := fnExactCommonCrossingsRow.holds Tryd.pinned (OpenSpec.ofChange fnExactCommonCrossingsWrong)

/-- 'laws.FnExactIsSingle': WHATEVER THE INPUT: true; the input reads as it did. -/
def fnExactIsSingleSpec : ChangeSpec := { name := "fnExactIsSingle", vars := ["loop.example/g00931/impl.turns"], fn := fun _ => fun
  | [d, g1] => { results := [.lit (.bool true)], args := [d], vars := [g1] }
  | _ => none }
def fnExactIsSingleRow : OpenClaim := { program := "ytdofeonkgaceeabdoor", sum := "34ee0024156f90bbf9be7747b29da905ad1a0aa201fcd6e48bb9e2491994fc38", func := "loop.example/g00931/laws.FnExactIsSingle", spec := "fnExactIsSingle", unfollowed := true, recurses := true, named := ["loop.example/g00931/impl.turns"], plainKeys := false, apart := false, laid := [("loop.example/g00931/impl.turns", laid_loop_example_g00931_impl_turns)] }
def FnExactIsSingleSaid : Prop := fnExactIsSingleRow.holds Tryd.pinned (OpenSpec.ofChange fnExactIsSingleSpec)

/-- ITS FALSE NEIGHBOUR: 'it returns false'. Refute it at one input. -/
def fnExactIsSingleWrong : ChangeSpec := { name := "fnExactIsSingle", vars := ["loop.example/g00931/impl.turns"], fn := fun _ => fun
  | [d, g1] => { results := [.lit (.bool false)], args := [d], vars := [g1] }
  | _ => none }
def FnExactIsSingleWrongFalsely : Prop := fnExactIsSingleRow.holds Tryd.pinned (OpenSpec.ofChange fnExactIsSingleWrong)

/-- 'laws.FnExactTouchesOf': WHATEVER THE INPUT: true; the input reads as it did. -/
def fnExactTouchesOfSpec : ChangeSpec := { name := "fnExactTouchesOf", vars := ["loop.example/g00931/impl.turns"], fn := fun _ => fun
  | [d1, d2, g1] => { results := [.lit (.bool true)], args := [d1, d2], vars := [g1] }
  | _ => none }
def fnExactTouchesOfRow : OpenClaim := { program := "ytdofeonkgaceeabdoor", sum := "34ee0024156f90bbf9be7747b29da905ad1a0aa201fcd6e48bb9e2491994fc38", func := "loop.example/g00931/laws.FnExactTouchesOf", spec := "fnExactTouchesOf", unfollowed := true, recurses := true, named := ["loop.example/g00931/impl.turns"], plainKeys := false, apart := false, laid := [("loop.example/g00931/impl.turns", laid_loop_example_g00931_impl_turns)] }
def FnExactTouchesOfSaid : Prop := fnExactTouchesOfRow.holds Tryd.pinned (OpenSpec.ofChange fnExactTouchesOfSpec)

/-- ITS FALSE NEIGHBOUR: 'it returns false'. Refute it at one input. -/
def fnExactTouchesOfWrong : ChangeSpec := { name := "fnExactTouchesOf", vars := ["loop.example/g00931/impl.turns"], fn := fun _ => fun
  | [d1, d2, g1] => { results := [.lit (.bool false)], args := [d1, d2], vars := [g1] }
  | _ => none }
def FnExactTouchesOfWrongFalsely : Prop := fnExactTouchesOfRow.holds Tryd.pinned (OpenSpec.ofChange fnExactTouchesOfWrong)

/-- 'laws.FnMeetings': WHATEVER THE INPUT: true; the input reads as it did. -/
def fnMeetingsSpec : ChangeSpec := { name := "fnMeetings", vars := ["loop.example/g00931/impl.turns", "loop.example/g00931/impl.directions"], fn := fun _ => fun
  | [d1, d2, g1, g2] => { results := [.lit (.bool true)], args := [d1, d2], vars := [g1, g2] }
  | _ => none }
def fnMeetingsRow : OpenClaim := { program := "ytdofeonkgaceeabdoor", sum := "34ee0024156f90bbf9be7747b29da905ad1a0aa201fcd6e48bb9e2491994fc38", func := "loop.example/g00931/laws.FnMeetings", spec := "fnMeetings", unfollowed := true, recurses := true, named := ["loop.example/g00931/impl.turns", "loop.example/g00931/impl.directions"], plainKeys := false, apart := false, laid := [("loop.example/g00931/impl.turns", laid_loop_example_g00931_impl_turns), ("loop.example/g00931/impl.directions", laid_loop_example_g00931_impl_directions)] }
def FnMeetingsSaid : Prop := fnMeetingsRow.holds Tryd.pinned (OpenSpec.ofChange fnMeetingsSpec)

/-- ITS FALSE NEIGHBOUR: 'it returns false'. Refute it at one input. -/
def fnMeetingsWrong : ChangeSpec := { name := "fnMeetings", vars := ["loop.example/g00931/impl.turns", "loop.example/g00931/impl.directions"], fn := fun _ => fun
  | [d1, d2, g1, g2] => { results := [.lit (.bool false)], args := [d1, d2], vars := [g1, g2] }
  | _ => none }
def FnMeetingsWrongFalsely : Prop := fnMeetingsRow.holds Tryd.pinned (OpenSpec.ofChange fnMeetingsWrong)

/-- 'laws.FnExactCurvePicture': WHATEVER THE INPUT: true; the input reads as it did. -/
def fnExactCurvePictureSpec : ChangeSpec := { name := "fnExactCurvePicture", vars := ["loop.example/g00931/impl.turns"], fn := fun _ => fun
  | [d1, d2, g1] => { results := [.lit (.bool true)], args := [d1, d2], vars := [g1] }
  | _ => none }
def fnExactCurvePictureRow : OpenClaim := { program := "ytdofeonkgaceeabdoor", sum := "34ee0024156f90bbf9be7747b29da905ad1a0aa201fcd6e48bb9e2491994fc38", func := "loop.example/g00931/laws.FnExactCurvePicture", spec := "fnExactCurvePicture", inPlace := ["internal/abi.NoEscape"], unfollowed := true, recurses := true, named := ["loop.example/g00931/impl.turns"], plainKeys := false, apart := false, laid := [("loop.example/g00931/impl.turns", laid_loop_example_g00931_impl_turns)] }
def FnExactCurvePictureSaid : Prop := fnExactCurvePictureRow.holds Tryd.pinned (OpenSpec.ofChange fnExactCurvePictureSpec)

/-- ITS FALSE NEIGHBOUR: 'it returns false'. Refute it at one input. -/
def fnExactCurvePictureWrong : ChangeSpec := { name := "fnExactCurvePicture", vars := ["loop.example/g00931/impl.turns"], fn := fun _ => fun
  | [d1, d2, g1] => { results := [.lit (.bool false)], args := [d1, d2], vars := [g1] }
  | _ => none }
def FnExactCurvePictureWrongFalsely : Prop := fnExactCurvePictureRow.holds Tryd.pinned (OpenSpec.ofChange fnExactCurvePictureWrong)

/-- 'laws.FnCurvePictures': WHATEVER THE INPUT: true; the input reads as it did. -/
def fnCurvePicturesSpec : ChangeSpec := { name := "fnCurvePictures", vars := ["loop.example/g00931/impl.turns", "loop.example/g00931/impl.pictureFaultNames"], fn := fun _ => fun
  | [d, g1, g2] => { results := [.lit (.bool true)], args := [d], vars := [g1, g2] }
  | _ => none }
def fnCurvePicturesRow : OpenClaim := { program := "ytdofeonkgaceeabdoor", sum := "34ee0024156f90bbf9be7747b29da905ad1a0aa201fcd6e48bb9e2491994fc38", func := "loop.example/g00931/laws.FnCurvePictures", spec := "fnCurvePictures", inPlace := ["internal/abi.NoEscape"], unfollowed := true, recurses := true, named := ["loop.example/g00931/impl.turns", "loop.example/g00931/impl.pictureFaultNames"], plainKeys := false, apart := false, laid := [("loop.example/g00931/impl.turns", laid_loop_example_g00931_impl_turns), ("loop.example/g00931/impl.pictureFaultNames", laid_loop_example_g00931_impl_pictureFaultNames)] }
def FnCurvePicturesSaid : Prop := fnCurvePicturesRow.holds Tryd.pinned (OpenSpec.ofChange fnCurvePicturesSpec)

/-- ITS FALSE NEIGHBOUR: 'it returns false'. Refute it at one input. -/
def fnCurvePicturesWrong : ChangeSpec := { name := "fnCurvePictures", vars := ["loop.example/g00931/impl.turns", "loop.example/g00931/impl.pictureFaultNames"], fn := fun _ => fun
  | [d, g1, g2] => { results := [.lit (.bool false)], args := [d], vars := [g1, g2] }
  | _ => none }
def FnCurvePicturesWrongFalsely : Prop := fnCurvePicturesRow.holds Tryd.pinned (OpenSpec.ofChange fnCurvePicturesWrong)

/- THE SECOND FORM. 'bulk': how many values and letters a reading holds, each counted each time it is reached (what is shared counts as often as it is met; a slice's spare places count too). A statement '..UptoSaid' is the law's where the arguments, and the package variables that the reading takes, are together of bulk at most 1048576: NARROWER than '..Said'. Prove '..Said' where nothing that the law and all that it calls make is longer than what came in: it says more and counts as full. Else prove '..UptoSaid'. A law counts once. -/
mutual
def uptoBulk {H : Type} : DataW H → Nat
  | .lit (.string bytes) => bytes.length + 1
  | .lit _ => 1
  | .nil => 1
  | .ptr d => uptoBulk d + 1
  | .slice elems spare => uptoBulkAll elems + uptoBulkAll spare + 1
  | .agg parts => uptoBulkAll parts + 1
  | .iface _ d => uptoBulk d + 1
  | .map entries => uptoBulkEntries entries + 1
  | .held _ => 1
def uptoBulkAll {H : Type} : List (DataW H) → Nat
  | [] => 0
  | d :: r => uptoBulk d + uptoBulkAll r
def uptoBulkEntries {H : Type} : List (Lit × DataW H) → Nat
  | [] => 0
  | x :: r => uptoBulkEntry x + uptoBulkEntries r
def uptoBulkEntry {H : Type} : Lit × DataW H → Nat
  | (.string bytes, d) => bytes.length + uptoBulk d + 1
  | (_, d) => uptoBulk d + 1
 end
def uptoSmall : (H : Type) → List (DataW H) → Bool := fun _ ds => decide (uptoBulkAll ds ≤ 1048576)
def OpenSpec.upto (s : _root_.Go.ChangeSpec) : _root_.Go.OpenSpec := { _root_.Go.OpenSpec.ofChange s with cond := some uptoSmall }

/-- 'laws.FnExactCountCurves', WHERE WHAT IT READS IS OF BULK AT MOST 1048576: true; the input reads as it did. -/
def fnExactCountCurvesUptoRow : OpenClaim := { program := "ytdofeonkgaceeabdoor", sum := "34ee0024156f90bbf9be7747b29da905ad1a0aa201fcd6e48bb9e2491994fc38", func := "loop.example/g00931/laws.FnExactCountCurves", spec := "fnExactCountCurves", unfollowed := true, recurses := true, named := ["loop.example/g00931/impl.turns"], plainKeys := false, apart := false, laid := [("loop.example/g00931/impl.turns", laid_loop_example_g00931_impl_turns)], narrowed := true }
def FnExactCountCurvesUptoSaid : Prop := fnExactCountCurvesUptoRow.holds Tryd.pinned (OpenSpec.upto fnExactCountCurvesSpec)

/-- 'laws.FnExactCurveAt', WHERE WHAT IT READS IS OF BULK AT MOST 1048576: true; the input reads as it did. -/
def fnExactCurveAtUptoRow : OpenClaim := { program := "ytdofeonkgaceeabdoor", sum := "34ee0024156f90bbf9be7747b29da905ad1a0aa201fcd6e48bb9e2491994fc38", func := "loop.example/g00931/laws.FnExactCurveAt", spec := "fnExactCurveAt", unfollowed := true, recurses := true, named := ["loop.example/g00931/impl.turns"], plainKeys := false, apart := false, laid := [("loop.example/g00931/impl.turns", laid_loop_example_g00931_impl_turns)], narrowed := true }
def FnExactCurveAtUptoSaid : Prop := fnExactCurveAtUptoRow.holds Tryd.pinned (OpenSpec.upto fnExactCurveAtSpec)

/-- 'laws.FnExactCurveLengths', WHERE WHAT IT READS IS OF BULK AT MOST 1048576: true; the input reads as it did. -/
def fnExactCurveLengthsUptoRow : OpenClaim := { program := "ytdofeonkgaceeabdoor", sum := "34ee0024156f90bbf9be7747b29da905ad1a0aa201fcd6e48bb9e2491994fc38", func := "loop.example/g00931/laws.FnExactCurveLengths", spec := "fnExactCurveLengths", unfollowed := true, recurses := true, named := ["loop.example/g00931/impl.turns"], plainKeys := false, apart := false, laid := [("loop.example/g00931/impl.turns", laid_loop_example_g00931_impl_turns)], narrowed := true }
def FnExactCurveLengthsUptoSaid : Prop := fnExactCurveLengthsUptoRow.holds Tryd.pinned (OpenSpec.upto fnExactCurveLengthsSpec)

/-- 'laws.FnExactSegmentCurves', WHERE WHAT IT READS IS OF BULK AT MOST 1048576: true; the input reads as it did. -/
def fnExactSegmentCurvesUptoRow : OpenClaim := { program := "ytdofeonkgaceeabdoor", sum := "34ee0024156f90bbf9be7747b29da905ad1a0aa201fcd6e48bb9e2491994fc38", func := "loop.example/g00931/laws.FnExactSegmentCurves", spec := "fnExactSegmentCurves", unfollowed := true, recurses := true, named := ["loop.example/g00931/impl.turns"], plainKeys := false, apart := false, laid := [("loop.example/g00931/impl.turns", laid_loop_example_g00931_impl_turns)], narrowed := true }
def FnExactSegmentCurvesUptoSaid : Prop := fnExactSegmentCurvesUptoRow.holds Tryd.pinned (OpenSpec.upto fnExactSegmentCurvesSpec)

/-- 'laws.FnExactCurvesThrough', WHERE WHAT IT READS IS OF BULK AT MOST 1048576: true; the input reads as it did. -/
def fnExactCurvesThroughUptoRow : OpenClaim := { program := "ytdofeonkgaceeabdoor", sum := "34ee0024156f90bbf9be7747b29da905ad1a0aa201fcd6e48bb9e2491994fc38", func := "loop.example/g00931/laws.FnExactCurvesThrough", spec := "fnExactCurvesThrough", unfollowed := true, recurses := true, named := ["loop.example/g00931/impl.turns", "loop.example/g00931/impl.directions"], plainKeys := false, apart := false, laid := [("loop.example/g00931/impl.turns", laid_loop_example_g00931_impl_turns), ("loop.example/g00931/impl.directions", laid_loop_example_g00931_impl_directions)], narrowed := true }
def FnExactCurvesThroughUptoSaid : Prop := fnExactCurvesThroughUptoRow.holds Tryd.pinned (OpenSpec.upto fnExactCurvesThroughSpec)

/-- 'laws.FnExactSelfCrossings', WHERE WHAT IT READS IS OF BULK AT MOST 1048576: true; the input reads as it did. -/
def fnExactSelfCrossingsUptoRow : OpenClaim := { program := "ytdofeonkgaceeabdoor", sum := "34ee0024156f90bbf9be7747b29da905ad1a0aa201fcd6e48bb9e2491994fc38", func := "loop.example/g00931/laws.FnExactSelfCrossings", spec := "fnExactSelfCrossings", unfollowed := true, recurses := true, named := ["loop.example/g00931/impl.turns", "loop.example/g00931/impl.directions"], plainKeys := false, apart := false, laid := [("loop.example/g00931/impl.turns", laid_loop_example_g00931_impl_turns), ("loop.example/g00931/impl.directions", laid_loop_example_g00931_impl_directions)], narrowed := true }
def FnExactSelfCrossingsUptoSaid : Prop := fnExactSelfCrossingsUptoRow.holds Tryd.pinned (OpenSpec.upto fnExactSelfCrossingsSpec)

/-- 'laws.FnExactCommonCrossings', WHERE WHAT IT READS IS OF BULK AT MOST 1048576: true; the input reads as it did. -/
def fnExactCommonCrossingsUptoRow : OpenClaim := { program := "ytdofeonkgaceeabdoor", sum := "34ee0024156f90bbf9be7747b29da905ad1a0aa201fcd6e48bb9e2491994fc38", func := "loop.example/g00931/laws.FnExactCommonCrossings", spec := "fnExactCommonCrossings", unfollowed := true, recurses := true, named := ["loop.example/g00931/impl.turns", "loop.example/g00931/impl.directions"], plainKeys := false, apart := false, laid := [("loop.example/g00931/impl.turns", laid_loop_example_g00931_impl_turns), ("loop.example/g00931/impl.directions", laid_loop_example_g00931_impl_directions)], narrowed := true }
def FnExactCommonCrossingsUptoSaid : Prop := fnExactCommonCrossingsUptoRow.holds Tryd.pinned (OpenSpec.upto fnExactCommonCrossingsSpec)

/-- 'laws.FnExactIsSingle', WHERE WHAT IT READS IS OF BULK AT MOST 1048576: true; the input reads as it did. -/
def fnExactIsSingleUptoRow : OpenClaim := { program := "ytdofeonkgaceeabdoor", sum := "34ee0024156f90bbf9be7747b29da905ad1a0aa201fcd6e48bb9e2491994fc38", func := "loop.example/g00931/laws.FnExactIsSingle", spec := "fnExactIsSingle", unfollowed := true, recurses := true, named := ["loop.example/g00931/impl.turns"], plainKeys := false, apart := false, laid := [("loop.example/g00931/impl.turns", laid_loop_example_g00931_impl_turns)], narrowed := true }
def FnExactIsSingleUptoSaid : Prop := fnExactIsSingleUptoRow.holds Tryd.pinned (OpenSpec.upto fnExactIsSingleSpec)

/-- 'laws.FnExactTouchesOf', WHERE WHAT IT READS IS OF BULK AT MOST 1048576: true; the input reads as it did. -/
def fnExactTouchesOfUptoRow : OpenClaim := { program := "ytdofeonkgaceeabdoor", sum := "34ee0024156f90bbf9be7747b29da905ad1a0aa201fcd6e48bb9e2491994fc38", func := "loop.example/g00931/laws.FnExactTouchesOf", spec := "fnExactTouchesOf", unfollowed := true, recurses := true, named := ["loop.example/g00931/impl.turns"], plainKeys := false, apart := false, laid := [("loop.example/g00931/impl.turns", laid_loop_example_g00931_impl_turns)], narrowed := true }
def FnExactTouchesOfUptoSaid : Prop := fnExactTouchesOfUptoRow.holds Tryd.pinned (OpenSpec.upto fnExactTouchesOfSpec)

/-- 'laws.FnMeetings', WHERE WHAT IT READS IS OF BULK AT MOST 1048576: true; the input reads as it did. -/
def fnMeetingsUptoRow : OpenClaim := { program := "ytdofeonkgaceeabdoor", sum := "34ee0024156f90bbf9be7747b29da905ad1a0aa201fcd6e48bb9e2491994fc38", func := "loop.example/g00931/laws.FnMeetings", spec := "fnMeetings", unfollowed := true, recurses := true, named := ["loop.example/g00931/impl.turns", "loop.example/g00931/impl.directions"], plainKeys := false, apart := false, laid := [("loop.example/g00931/impl.turns", laid_loop_example_g00931_impl_turns), ("loop.example/g00931/impl.directions", laid_loop_example_g00931_impl_directions)], narrowed := true }
def FnMeetingsUptoSaid : Prop := fnMeetingsUptoRow.holds Tryd.pinned (OpenSpec.upto fnMeetingsSpec)

/-- 'laws.FnExactCurvePicture', WHERE WHAT IT READS IS OF BULK AT MOST 1048576: true; the input reads as it did. -/
def fnExactCurvePictureUptoRow : OpenClaim := { program := "ytdofeonkgaceeabdoor", sum := "34ee0024156f90bbf9be7747b29da905ad1a0aa201fcd6e48bb9e2491994fc38", func := "loop.example/g00931/laws.FnExactCurvePicture", spec := "fnExactCurvePicture", inPlace := ["internal/abi.NoEscape"], unfollowed := true, recurses := true, named := ["loop.example/g00931/impl.turns"], plainKeys := false, apart := false, laid := [("loop.example/g00931/impl.turns", laid_loop_example_g00931_impl_turns)], narrowed := true }
def FnExactCurvePictureUptoSaid : Prop := fnExactCurvePictureUptoRow.holds Tryd.pinned (OpenSpec.upto fnExactCurvePictureSpec)

/-- 'laws.FnCurvePictures', WHERE WHAT IT READS IS OF BULK AT MOST 1048576: true; the input reads as it did. -/
def fnCurvePicturesUptoRow : OpenClaim := { program := "ytdofeonkgaceeabdoor", sum := "34ee0024156f90bbf9be7747b29da905ad1a0aa201fcd6e48bb9e2491994fc38", func := "loop.example/g00931/laws.FnCurvePictures", spec := "fnCurvePictures", inPlace := ["internal/abi.NoEscape"], unfollowed := true, recurses := true, named := ["loop.example/g00931/impl.turns", "loop.example/g00931/impl.pictureFaultNames"], plainKeys := false, apart := false, laid := [("loop.example/g00931/impl.turns", laid_loop_example_g00931_impl_turns), ("loop.example/g00931/impl.pictureFaultNames", laid_loop_example_g00931_impl_pictureFaultNames)], narrowed := true }
def FnCurvePicturesUptoSaid : Prop := fnCurvePicturesUptoRow.holds Tryd.pinned (OpenSpec.upto fnCurvePicturesSpec)

end Rows
end Go.Proofs.YtdofeonkgaceeabDoor
