/-
  NARROWER THAN 'FOR EVERY INPUT', by the rows' own cells (each row's printed sentence says how): FnSteps: laid · FnCurves: laid · FnMeetings: laid · FnExactDecimal: laid · FnExactReadDecimal: laid · FnExactWalkSteps: laid · FnExactCurvesOf: laid · FnExactCountCurves: laid · FnExactCurveAt: laid · FnExactCurveLengths: laid · FnExactSegmentCurves: laid.
  DERIVED. THE GIVEN ROWS OF THIS SEAT. 11 by the template 'for every input the law returns true; each argument reads behind the call as it read before'; 0 by the template 'total and deterministic' (their statements: YtfkodbpkfoecoaaDoorTotals.lean).
  GIVEN WITH THE SEED: the statements are not yours to turn. If you find one false, say at which input.
  Laid BY PROGRAM, IN A SANDBOX (cutbox-rows.mjs): the forced cells as the released guide's own fill.sh prints them over the translation fe3fb73c462236e4… (all of the seat's roots in one cut). By AI agents, Wed Nov 11 2026. No macro, syntax, notation, axiom, sorry.
-/
import Derived.Test.YtfkodbpkfoecoaaDoorChecked
import GoSem.Claim
import GoSem.ClaimJoined
import GoSem.ClaimMapViews
import Derived.JoinedTies
import Derived.KernelRfl
namespace Go.Proofs.YtfkodbpkfoecoaaDoor
/- THE CELL 'sum', in the pinned program and in every row, IS THE sha256 OF THE DUMP (.gsa) THAT YtfkodbpkfoecoaaDoorProg.lean LOADS. Nothing in Lean hashes anything: it is a label: what it is worth is what the hold of that sum in a sandbox is worth. -/
noncomputable def Tryd.pinned : Pinned := { name := "ytfkodbpkfoecoaadoor", sum := "fe3fb73c462236e4a0fbbc973c6cea84e3d82429fd1b5c47d219e019f148b878", checked := Tryd.checked }
namespace Rows
def none {H : Type} : Left H := { results := [], args := [] }

/- WHAT THE LISTED PACKAGE-LEVEL VARIABLES READ AS WHEN THE CALL BEGINS. Each datum BY PROGRAM (the guide's laid-datum.mjs) off the statement by which the dump's own 'gosem.cut.vars' lays the variable. In a bare row this is a premise. The card (YtfkodbpkfoecoaaDoorCards.lean) ties it to the program's text. -/
def laid_loop_example_g00931_impl_turns {H : Type} : DataW H := .agg [.agg [.lit (.int .i64 1), .lit (.int .i64 1)], .agg [.lit (.int .i64 (-1)), .lit (.int .i64 1)], .agg [.lit (.int .i64 1), .lit (.int .i64 (-1))]]
def laid_loop_example_g00931_impl_directions {H : Type} : DataW H := .agg [.agg [.lit (.int .i64 (-1)), .lit (.int .i64 (-1))], .agg [.lit (.int .i64 1), .lit (.int .i64 (-1))], .agg [.lit (.int .i64 (-1)), .lit (.int .i64 1)], .agg [.lit (.int .i64 1), .lit (.int .i64 1)]]
def laid_math_bits_deBruijn32tab {H : Type} : DataW H := .agg [.lit (.int .u8 0), .lit (.int .u8 1), .lit (.int .u8 28), .lit (.int .u8 2), .lit (.int .u8 29), .lit (.int .u8 14), .lit (.int .u8 24), .lit (.int .u8 3), .lit (.int .u8 30), .lit (.int .u8 22), .lit (.int .u8 20), .lit (.int .u8 15), .lit (.int .u8 25), .lit (.int .u8 17), .lit (.int .u8 4), .lit (.int .u8 8), .lit (.int .u8 31), .lit (.int .u8 27), .lit (.int .u8 13), .lit (.int .u8 23), .lit (.int .u8 21), .lit (.int .u8 19), .lit (.int .u8 16), .lit (.int .u8 7), .lit (.int .u8 26), .lit (.int .u8 12), .lit (.int .u8 18), .lit (.int .u8 6), .lit (.int .u8 11), .lit (.int .u8 5), .lit (.int .u8 10), .lit (.int .u8 9)]
def laid_math_bits_deBruijn64tab {H : Type} : DataW H := .agg [.lit (.int .u8 0), .lit (.int .u8 1), .lit (.int .u8 56), .lit (.int .u8 2), .lit (.int .u8 57), .lit (.int .u8 49), .lit (.int .u8 28), .lit (.int .u8 3), .lit (.int .u8 61), .lit (.int .u8 58), .lit (.int .u8 42), .lit (.int .u8 50), .lit (.int .u8 38), .lit (.int .u8 29), .lit (.int .u8 17), .lit (.int .u8 4), .lit (.int .u8 62), .lit (.int .u8 47), .lit (.int .u8 59), .lit (.int .u8 36), .lit (.int .u8 45), .lit (.int .u8 43), .lit (.int .u8 51), .lit (.int .u8 22), .lit (.int .u8 53), .lit (.int .u8 39), .lit (.int .u8 33), .lit (.int .u8 30), .lit (.int .u8 24), .lit (.int .u8 18), .lit (.int .u8 12), .lit (.int .u8 5), .lit (.int .u8 63), .lit (.int .u8 55), .lit (.int .u8 48), .lit (.int .u8 27), .lit (.int .u8 60), .lit (.int .u8 41), .lit (.int .u8 37), .lit (.int .u8 16), .lit (.int .u8 46), .lit (.int .u8 35), .lit (.int .u8 44), .lit (.int .u8 21), .lit (.int .u8 52), .lit (.int .u8 32), .lit (.int .u8 23), .lit (.int .u8 11), .lit (.int .u8 54), .lit (.int .u8 26), .lit (.int .u8 40), .lit (.int .u8 15), .lit (.int .u8 34), .lit (.int .u8 20), .lit (.int .u8 31), .lit (.int .u8 10), .lit (.int .u8 25), .lit (.int .u8 14), .lit (.int .u8 19), .lit (.int .u8 9), .lit (.int .u8 13), .lit (.int .u8 8), .lit (.int .u8 7), .lit (.int .u8 6)]
def laid_internal_strconv_uint64pow10 {H : Type} : DataW H := .agg [.lit (.int .u64 1), .lit (.int .u64 10), .lit (.int .u64 100), .lit (.int .u64 1000), .lit (.int .u64 10000), .lit (.int .u64 100000), .lit (.int .u64 1000000), .lit (.int .u64 10000000), .lit (.int .u64 100000000), .lit (.int .u64 1000000000), .lit (.int .u64 10000000000), .lit (.int .u64 100000000000), .lit (.int .u64 1000000000000), .lit (.int .u64 10000000000000), .lit (.int .u64 100000000000000), .lit (.int .u64 1000000000000000), .lit (.int .u64 10000000000000000), .lit (.int .u64 100000000000000000), .lit (.int .u64 1000000000000000000), .lit (.int .u64 10000000000000000000)]
def laid_strconv_ErrRange {H : Type} : DataW H := .iface "*errors.errorString" (.ptr (.agg [.lit (.string [118, 97, 108, 117, 101, 32, 111, 117, 116, 32, 111, 102, 32, 114, 97, 110, 103, 101])]))
def laid_strconv_ErrSyntax {H : Type} : DataW H := .iface "*errors.errorString" (.ptr (.agg [.lit (.string [105, 110, 118, 97, 108, 105, 100, 32, 115, 121, 110, 116, 97, 120])]))

/-- 'laws.FnSteps': WHATEVER THE INPUT: true; the input reads as it did. -/
def fnStepsSpec : ChangeSpec := { name := "fnSteps", vars := ["loop.example/g00931/impl.turns"], fn := fun _ => fun
  | [d1, d2, g1] => { results := [.lit (.bool true)], args := [d1, d2], vars := [g1] }
  | _ => none }
def fnStepsRow : OpenClaim := { program := "ytfkodbpkfoecoaadoor", sum := "fe3fb73c462236e4a0fbbc973c6cea84e3d82429fd1b5c47d219e019f148b878", func := "loop.example/g00931/laws.FnSteps", spec := "fnSteps", unfollowed := true, recurses := true, named := ["loop.example/g00931/impl.turns"], leaving := true, apart := false, laid := [("loop.example/g00931/impl.turns", laid_loop_example_g00931_impl_turns)] }
def FnStepsSaid : Prop := fnStepsRow.holds Tryd.pinned (OpenSpec.ofChange fnStepsSpec)

/-- ITS FALSE NEIGHBOUR: 'it returns false'. Refute it at one input. -/
def fnStepsWrong : ChangeSpec := { name := "fnSteps", vars := ["loop.example/g00931/impl.turns"], fn := fun _ => fun
  | [d1, d2, g1] => { results := [.lit (.bool false)], args := [d1, d2], vars := [g1] }
  | _ => none }
def FnStepsWrongFalsely : Prop := fnStepsRow.holds Tryd.pinned (OpenSpec.ofChange fnStepsWrong)

/-- 'laws.FnCurves': WHATEVER THE INPUT: true; the input reads as it did. -/
def fnCurvesSpec : ChangeSpec := { name := "fnCurves", vars := ["loop.example/g00931/impl.turns"], fn := fun _ => fun
  | [d, g1] => { results := [.lit (.bool true)], args := [d], vars := [g1] }
  | _ => none }
def fnCurvesRow : OpenClaim := { program := "ytfkodbpkfoecoaadoor", sum := "fe3fb73c462236e4a0fbbc973c6cea84e3d82429fd1b5c47d219e019f148b878", func := "loop.example/g00931/laws.FnCurves", spec := "fnCurves", inPlace := ["(*sync.WaitGroup).Add", "internal/race.ReleaseMerge", "internal/race.Disable", "internal/race.Enable", "internal/synctest.IsInBubble", "internal/synctest.Associate[sync.WaitGroup]", "sync.fatal", "sync/atomic.OrUint64", "sync/atomic.AddUint64", "internal/race.Read", "sync/atomic.LoadUint64", "sync/atomic.StoreUint64", "internal/synctest.Disassociate[sync.WaitGroup]", "sync.runtime_Semrelease", "(*sync.WaitGroup).Done", "(*sync.WaitGroup).Wait", "internal/race.Acquire", "internal/synctest.IsAssociated[sync.WaitGroup]", "sync/atomic.CompareAndSwapUint64", "internal/race.Write", "sync.runtime_SemacquireWaitGroup"], unfollowed := true, recurses := true, named := ["loop.example/g00931/impl.turns"], leaving := true, apart := false, laid := [("loop.example/g00931/impl.turns", laid_loop_example_g00931_impl_turns)] }
def FnCurvesSaid : Prop := fnCurvesRow.holds Tryd.pinned (OpenSpec.ofChange fnCurvesSpec)

/-- ITS FALSE NEIGHBOUR: 'it returns false'. Refute it at one input. -/
def fnCurvesWrong : ChangeSpec := { name := "fnCurves", vars := ["loop.example/g00931/impl.turns"], fn := fun _ => fun
  | [d, g1] => { results := [.lit (.bool false)], args := [d], vars := [g1] }
  | _ => none }
def FnCurvesWrongFalsely : Prop := fnCurvesRow.holds Tryd.pinned (OpenSpec.ofChange fnCurvesWrong)

/-- 'laws.FnMeetings': WHATEVER THE INPUT: true; the input reads as it did. -/
def fnMeetingsSpec : ChangeSpec := { name := "fnMeetings", vars := ["loop.example/g00931/impl.turns", "loop.example/g00931/impl.directions"], fn := fun _ => fun
  | [d1, d2, g1, g2] => { results := [.lit (.bool true)], args := [d1, d2], vars := [g1, g2] }
  | _ => none }
def fnMeetingsRow : OpenClaim := { program := "ytfkodbpkfoecoaadoor", sum := "fe3fb73c462236e4a0fbbc973c6cea84e3d82429fd1b5c47d219e019f148b878", func := "loop.example/g00931/laws.FnMeetings", spec := "fnMeetings", unfollowed := true, recurses := true, named := ["loop.example/g00931/impl.turns", "loop.example/g00931/impl.directions"], leaving := true, apart := false, laid := [("loop.example/g00931/impl.turns", laid_loop_example_g00931_impl_turns), ("loop.example/g00931/impl.directions", laid_loop_example_g00931_impl_directions)] }
def FnMeetingsSaid : Prop := fnMeetingsRow.holds Tryd.pinned (OpenSpec.ofChange fnMeetingsSpec)

/-- ITS FALSE NEIGHBOUR: 'it returns false'. Refute it at one input. -/
def fnMeetingsWrong : ChangeSpec := { name := "fnMeetings", vars := ["loop.example/g00931/impl.turns", "loop.example/g00931/impl.directions"], fn := fun _ => fun
  | [d1, d2, g1, g2] => { results := [.lit (.bool false)], args := [d1, d2], vars := [g1, g2] }
  | _ => none }
def FnMeetingsWrongFalsely : Prop := fnMeetingsRow.holds Tryd.pinned (OpenSpec.ofChange fnMeetingsWrong)

/-- 'laws.FnExactDecimal': WHATEVER THE INPUT: true; the input reads as it did. -/
def fnExactDecimalSpec : ChangeSpec := { name := "fnExactDecimal", fn := fun _ => fun
  | [d] => { results := [.lit (.bool true)], args := [d] }
  | _ => none }
def fnExactDecimalRow : OpenClaim := { program := "ytfkodbpkfoecoaadoor", sum := "fe3fb73c462236e4a0fbbc973c6cea84e3d82429fd1b5c47d219e019f148b878", func := "loop.example/g00931/laws.FnExactDecimal", spec := "fnExactDecimal", named := ["internal/strconv.uint64pow10", "math/bits.deBruijn32tab", "math/bits.deBruijn64tab"], apart := false, laid := [("math/bits.deBruijn32tab", laid_math_bits_deBruijn32tab), ("math/bits.deBruijn64tab", laid_math_bits_deBruijn64tab), ("internal/strconv.uint64pow10", laid_internal_strconv_uint64pow10)] }
def FnExactDecimalSaid : Prop := fnExactDecimalRow.holds Tryd.pinned (OpenSpec.ofChange fnExactDecimalSpec)

/-- ITS FALSE NEIGHBOUR: 'it returns false'. Refute it at one input. -/
def fnExactDecimalWrong : ChangeSpec := { name := "fnExactDecimal", fn := fun _ => fun
  | [d] => { results := [.lit (.bool false)], args := [d] }
  | _ => none }
def FnExactDecimalWrongFalsely : Prop := fnExactDecimalRow.holds Tryd.pinned (OpenSpec.ofChange fnExactDecimalWrong)

/-- 'laws.FnExactReadDecimal': WHATEVER THE INPUT: true; the input reads as it did. -/
def fnExactReadDecimalSpec : ChangeSpec := { name := "fnExactReadDecimal", fn := fun _ => fun
  | [d] => { results := [.lit (.bool true)], args := [d] }
  | _ => none }
def fnExactReadDecimalRow : OpenClaim := { program := "ytfkodbpkfoecoaadoor", sum := "fe3fb73c462236e4a0fbbc973c6cea84e3d82429fd1b5c47d219e019f148b878", func := "loop.example/g00931/laws.FnExactReadDecimal", spec := "fnExactReadDecimal", named := ["strconv.ErrSyntax", "strconv.ErrRange", "internal/strconv.uint64pow10", "math/bits.deBruijn32tab", "math/bits.deBruijn64tab"], apart := false, laid := [("math/bits.deBruijn32tab", laid_math_bits_deBruijn32tab), ("math/bits.deBruijn64tab", laid_math_bits_deBruijn64tab), ("internal/strconv.uint64pow10", laid_internal_strconv_uint64pow10), ("strconv.ErrRange", laid_strconv_ErrRange), ("strconv.ErrSyntax", laid_strconv_ErrSyntax)] }
def FnExactReadDecimalSaid : Prop := fnExactReadDecimalRow.holds Tryd.pinned (OpenSpec.ofChange fnExactReadDecimalSpec)

/-- ITS FALSE NEIGHBOUR: 'it returns false'. Refute it at one input. -/
def fnExactReadDecimalWrong : ChangeSpec := { name := "fnExactReadDecimal", fn := fun _ => fun
  | [d] => { results := [.lit (.bool false)], args := [d] }
  | _ => none }
def FnExactReadDecimalWrongFalsely : Prop := fnExactReadDecimalRow.holds Tryd.pinned (OpenSpec.ofChange fnExactReadDecimalWrong)

/-- 'laws.FnExactWalkSteps': WHATEVER THE INPUT: true; the input reads as it did. -/
def fnExactWalkStepsSpec : ChangeSpec := { name := "fnExactWalkSteps", vars := ["loop.example/g00931/impl.turns"], fn := fun _ => fun
  | [d1, d2, d3, g1] => { results := [.lit (.bool true)], args := [d1, d2, d3], vars := [g1] }
  | _ => none }
def fnExactWalkStepsRow : OpenClaim := { program := "ytfkodbpkfoecoaadoor", sum := "fe3fb73c462236e4a0fbbc973c6cea84e3d82429fd1b5c47d219e019f148b878", func := "loop.example/g00931/laws.FnExactWalkSteps", spec := "fnExactWalkSteps", unfollowed := true, recurses := true, named := ["loop.example/g00931/impl.turns"], leaving := true, apart := false, laid := [("loop.example/g00931/impl.turns", laid_loop_example_g00931_impl_turns)] }
def FnExactWalkStepsSaid : Prop := fnExactWalkStepsRow.holds Tryd.pinned (OpenSpec.ofChange fnExactWalkStepsSpec)

/-- ITS FALSE NEIGHBOUR: 'it returns false'. Refute it at one input. -/
def fnExactWalkStepsWrong : ChangeSpec := { name := "fnExactWalkSteps", vars := ["loop.example/g00931/impl.turns"], fn := fun _ => fun
  | [d1, d2, d3, g1] => { results := [.lit (.bool false)], args := [d1, d2, d3], vars := [g1] }
  | _ => none }
def FnExactWalkStepsWrongFalsely : Prop := fnExactWalkStepsRow.holds Tryd.pinned (OpenSpec.ofChange fnExactWalkStepsWrong)

/-- 'laws.FnExactCurvesOf': WHATEVER THE INPUT: true; the input reads as it did. -/
def fnExactCurvesOfSpec : ChangeSpec := { name := "fnExactCurvesOf", vars := ["loop.example/g00931/impl.turns"], fn := fun _ => fun
  | [d, g1] => { results := [.lit (.bool true)], args := [d], vars := [g1] }
  | _ => none }
def fnExactCurvesOfRow : OpenClaim := { program := "ytfkodbpkfoecoaadoor", sum := "fe3fb73c462236e4a0fbbc973c6cea84e3d82429fd1b5c47d219e019f148b878", func := "loop.example/g00931/laws.FnExactCurvesOf", spec := "fnExactCurvesOf", inPlace := ["(*sync.WaitGroup).Add", "internal/race.ReleaseMerge", "internal/race.Disable", "internal/race.Enable", "internal/synctest.IsInBubble", "internal/synctest.Associate[sync.WaitGroup]", "sync.fatal", "sync/atomic.OrUint64", "sync/atomic.AddUint64", "internal/race.Read", "sync/atomic.LoadUint64", "sync/atomic.StoreUint64", "internal/synctest.Disassociate[sync.WaitGroup]", "sync.runtime_Semrelease", "(*sync.WaitGroup).Done", "(*sync.WaitGroup).Wait", "internal/race.Acquire", "internal/synctest.IsAssociated[sync.WaitGroup]", "sync/atomic.CompareAndSwapUint64", "internal/race.Write", "sync.runtime_SemacquireWaitGroup"], unfollowed := true, recurses := true, named := ["loop.example/g00931/impl.turns"], leaving := true, apart := false, laid := [("loop.example/g00931/impl.turns", laid_loop_example_g00931_impl_turns)] }
def FnExactCurvesOfSaid : Prop := fnExactCurvesOfRow.holds Tryd.pinned (OpenSpec.ofChange fnExactCurvesOfSpec)

/-- ITS FALSE NEIGHBOUR: 'it returns false'. Refute it at one input. -/
def fnExactCurvesOfWrong : ChangeSpec := { name := "fnExactCurvesOf", vars := ["loop.example/g00931/impl.turns"], fn := fun _ => fun
  | [d, g1] => { results := [.lit (.bool false)], args := [d], vars := [g1] }
  | _ => none }
def FnExactCurvesOfWrongFalsely : Prop := fnExactCurvesOfRow.holds Tryd.pinned (OpenSpec.ofChange fnExactCurvesOfWrong)

/-- 'laws.FnExactCountCurves': WHATEVER THE INPUT: true; the input reads as it did. -/
def fnExactCountCurvesSpec : ChangeSpec := { name := "fnExactCountCurves", vars := ["loop.example/g00931/impl.turns"], fn := fun _ => fun
  | [d, g1] => { results := [.lit (.bool true)], args := [d], vars := [g1] }
  | _ => none }
def fnExactCountCurvesRow : OpenClaim := { program := "ytfkodbpkfoecoaadoor", sum := "fe3fb73c462236e4a0fbbc973c6cea84e3d82429fd1b5c47d219e019f148b878", func := "loop.example/g00931/laws.FnExactCountCurves", spec := "fnExactCountCurves", unfollowed := true, recurses := true, named := ["loop.example/g00931/impl.turns"], leaving := true, apart := false, laid := [("loop.example/g00931/impl.turns", laid_loop_example_g00931_impl_turns)] }
def FnExactCountCurvesSaid : Prop := fnExactCountCurvesRow.holds Tryd.pinned (OpenSpec.ofChange fnExactCountCurvesSpec)

/-- ITS FALSE NEIGHBOUR: 'it returns false'. Refute it at one input. -/
def fnExactCountCurvesWrong : ChangeSpec := { name := "fnExactCountCurves", vars := ["loop.example/g00931/impl.turns"], fn := fun _ => fun
  | [d, g1] => { results := [.lit (.bool false)], args := [d], vars := [g1] }
  | _ => none }
def FnExactCountCurvesWrongFalsely : Prop := fnExactCountCurvesRow.holds Tryd.pinned (OpenSpec.ofChange fnExactCountCurvesWrong)

/-- 'laws.FnExactCurveAt': WHATEVER THE INPUT: true; the input reads as it did. -/
def fnExactCurveAtSpec : ChangeSpec := { name := "fnExactCurveAt", vars := ["loop.example/g00931/impl.turns"], fn := fun _ => fun
  | [d1, d2, g1] => { results := [.lit (.bool true)], args := [d1, d2], vars := [g1] }
  | _ => none }
def fnExactCurveAtRow : OpenClaim := { program := "ytfkodbpkfoecoaadoor", sum := "fe3fb73c462236e4a0fbbc973c6cea84e3d82429fd1b5c47d219e019f148b878", func := "loop.example/g00931/laws.FnExactCurveAt", spec := "fnExactCurveAt", unfollowed := true, recurses := true, named := ["loop.example/g00931/impl.turns"], leaving := true, apart := false, laid := [("loop.example/g00931/impl.turns", laid_loop_example_g00931_impl_turns)] }
def FnExactCurveAtSaid : Prop := fnExactCurveAtRow.holds Tryd.pinned (OpenSpec.ofChange fnExactCurveAtSpec)

/-- ITS FALSE NEIGHBOUR: 'it returns false'. Refute it at one input. -/
def fnExactCurveAtWrong : ChangeSpec := { name := "fnExactCurveAt", vars := ["loop.example/g00931/impl.turns"], fn := fun _ => fun
  | [d1, d2, g1] => { results := [.lit (.bool false)], args := [d1, d2], vars := [g1] }
  | _ => none }
def FnExactCurveAtWrongFalsely : Prop := fnExactCurveAtRow.holds Tryd.pinned (OpenSpec.ofChange fnExactCurveAtWrong)

/-- 'laws.FnExactCurveLengths': WHATEVER THE INPUT: true; the input reads as it did. -/
def fnExactCurveLengthsSpec : ChangeSpec := { name := "fnExactCurveLengths", vars := ["loop.example/g00931/impl.turns"], fn := fun _ => fun
  | [d, g1] => { results := [.lit (.bool true)], args := [d], vars := [g1] }
  | _ => none }
def fnExactCurveLengthsRow : OpenClaim := { program := "ytfkodbpkfoecoaadoor", sum := "fe3fb73c462236e4a0fbbc973c6cea84e3d82429fd1b5c47d219e019f148b878", func := "loop.example/g00931/laws.FnExactCurveLengths", spec := "fnExactCurveLengths", unfollowed := true, recurses := true, named := ["loop.example/g00931/impl.turns"], leaving := true, apart := false, laid := [("loop.example/g00931/impl.turns", laid_loop_example_g00931_impl_turns)] }
def FnExactCurveLengthsSaid : Prop := fnExactCurveLengthsRow.holds Tryd.pinned (OpenSpec.ofChange fnExactCurveLengthsSpec)

/-- ITS FALSE NEIGHBOUR: 'it returns false'. Refute it at one input. -/
def fnExactCurveLengthsWrong : ChangeSpec := { name := "fnExactCurveLengths", vars := ["loop.example/g00931/impl.turns"], fn := fun _ => fun
  | [d, g1] => { results := [.lit (.bool false)], args := [d], vars := [g1] }
  | _ => none }
def FnExactCurveLengthsWrongFalsely : Prop := fnExactCurveLengthsRow.holds Tryd.pinned (OpenSpec.ofChange fnExactCurveLengthsWrong)

/-- 'laws.FnExactSegmentCurves': WHATEVER THE INPUT: true; the input reads as it did. -/
def fnExactSegmentCurvesSpec : ChangeSpec := { name := "fnExactSegmentCurves", vars := ["loop.example/g00931/impl.turns"], fn := fun _ => fun
  | [d, g1] => { results := [.lit (.bool true)], args := [d], vars := [g1] }
  | _ => none }
def fnExactSegmentCurvesRow : OpenClaim := { program := "ytfkodbpkfoecoaadoor", sum := "fe3fb73c462236e4a0fbbc973c6cea84e3d82429fd1b5c47d219e019f148b878", func := "loop.example/g00931/laws.FnExactSegmentCurves", spec := "fnExactSegmentCurves", unfollowed := true, recurses := true, named := ["loop.example/g00931/impl.turns"], leaving := true, apart := false, laid := [("loop.example/g00931/impl.turns", laid_loop_example_g00931_impl_turns)] }
def FnExactSegmentCurvesSaid : Prop := fnExactSegmentCurvesRow.holds Tryd.pinned (OpenSpec.ofChange fnExactSegmentCurvesSpec)

/-- ITS FALSE NEIGHBOUR: 'it returns false'. Refute it at one input. -/
def fnExactSegmentCurvesWrong : ChangeSpec := { name := "fnExactSegmentCurves", vars := ["loop.example/g00931/impl.turns"], fn := fun _ => fun
  | [d, g1] => { results := [.lit (.bool false)], args := [d], vars := [g1] }
  | _ => none }
def FnExactSegmentCurvesWrongFalsely : Prop := fnExactSegmentCurvesRow.holds Tryd.pinned (OpenSpec.ofChange fnExactSegmentCurvesWrong)

/- THE SECOND FORM. 'bulk': how many values and letters a reading holds, each counted each time it is reached (what is shared counts as often as it is met; a slice's spare places count too). A statement '..UptoSaid' is the law's where the arguments, and the package variables that the reading takes, are together of bulk at most 1048576: NARROWER than '..Said'. Prove '..Said' where nothing that the law and all that it calls make is longer than what came in: it says more and counts as full. Else prove '..UptoSaid'. A law counts once. -/
mutual
def uptoBulk {H : Type} : DataW H → Nat
  | .lit (.string bytes) => bytes.length + 1
  | .lit _ => 1
  | .nil => 1
  | .ptr d => uptoBulk d + 1
  | .slice elems spare => uptoBulkAll elems + uptoBulkAll spare + 1
  | .agg parts => uptoBulkAll parts + 1
  | .iface _ d => uptoBulk d + 1
  | .map entries => uptoBulkEntries entries + 1
  | .held _ => 1
def uptoBulkAll {H : Type} : List (DataW H) → Nat
  | [] => 0
  | d :: r => uptoBulk d + uptoBulkAll r
def uptoBulkEntries {H : Type} : List (Lit × DataW H) → Nat
  | [] => 0
  | x :: r => uptoBulkEntry x + uptoBulkEntries r
def uptoBulkEntry {H : Type} : Lit × DataW H → Nat
  | (.string bytes, d) => bytes.length + uptoBulk d + 1
  | (_, d) => uptoBulk d + 1
 end
def uptoSmall : (H : Type) → List (DataW H) → Bool := fun _ ds => decide (uptoBulkAll ds ≤ 1048576)
def OpenSpec.upto (s : _root_.Go.ChangeSpec) : _root_.Go.OpenSpec := { _root_.Go.OpenSpec.ofChange s with cond := some uptoSmall }

/-- 'laws.FnSteps', WHERE WHAT IT READS IS OF BULK AT MOST 1048576: true; the input reads as it did. -/
def fnStepsUptoRow : OpenClaim := { program := "ytfkodbpkfoecoaadoor", sum := "fe3fb73c462236e4a0fbbc973c6cea84e3d82429fd1b5c47d219e019f148b878", func := "loop.example/g00931/laws.FnSteps", spec := "fnSteps", unfollowed := true, recurses := true, named := ["loop.example/g00931/impl.turns"], leaving := true, apart := false, laid := [("loop.example/g00931/impl.turns", laid_loop_example_g00931_impl_turns)], narrowed := true }
def FnStepsUptoSaid : Prop := fnStepsUptoRow.holds Tryd.pinned (OpenSpec.upto fnStepsSpec)

/-- 'laws.FnCurves', WHERE WHAT IT READS IS OF BULK AT MOST 1048576: true; the input reads as it did. -/
def fnCurvesUptoRow : OpenClaim := { program := "ytfkodbpkfoecoaadoor", sum := "fe3fb73c462236e4a0fbbc973c6cea84e3d82429fd1b5c47d219e019f148b878", func := "loop.example/g00931/laws.FnCurves", spec := "fnCurves", inPlace := ["(*sync.WaitGroup).Add", "internal/race.ReleaseMerge", "internal/race.Disable", "internal/race.Enable", "internal/synctest.IsInBubble", "internal/synctest.Associate[sync.WaitGroup]", "sync.fatal", "sync/atomic.OrUint64", "sync/atomic.AddUint64", "internal/race.Read", "sync/atomic.LoadUint64", "sync/atomic.StoreUint64", "internal/synctest.Disassociate[sync.WaitGroup]", "sync.runtime_Semrelease", "(*sync.WaitGroup).Done", "(*sync.WaitGroup).Wait", "internal/race.Acquire", "internal/synctest.IsAssociated[sync.WaitGroup]", "sync/atomic.CompareAndSwapUint64", "internal/race.Write", "sync.runtime_SemacquireWaitGroup"], unfollowed := true, recurses := true, named := ["loop.example/g00931/impl.turns"], leaving := true, apart := false, laid := [("loop.example/g00931/impl.turns", laid_loop_example_g00931_impl_turns)], narrowed := true }
def FnCurvesUptoSaid : Prop := fnCurvesUptoRow.holds Tryd.pinned (OpenSpec.upto fnCurvesSpec)

/-- 'laws.FnMeetings', WHERE WHAT IT READS IS OF BULK AT MOST 1048576: true; the input reads as it did. -/
def fnMeetingsUptoRow : OpenClaim := { program := "ytfkodbpkfoecoaadoor", sum := "fe3fb73c462236e4a0fbbc973c6cea84e3d82429fd1b5c47d219e019f148b878", func := "loop.example/g00931/laws.FnMeetings", spec := "fnMeetings", unfollowed := true, recurses := true, named := ["loop.example/g00931/impl.turns", "loop.example/g00931/impl.directions"], leaving := true, apart := false, laid := [("loop.example/g00931/impl.turns", laid_loop_example_g00931_impl_turns), ("loop.example/g00931/impl.directions", laid_loop_example_g00931_impl_directions)], narrowed := true }
def FnMeetingsUptoSaid : Prop := fnMeetingsUptoRow.holds Tryd.pinned (OpenSpec.upto fnMeetingsSpec)

/-- 'laws.FnExactDecimal', WHERE WHAT IT READS IS OF BULK AT MOST 1048576: true; the input reads as it did. -/
def fnExactDecimalUptoRow : OpenClaim := { program := "ytfkodbpkfoecoaadoor", sum := "fe3fb73c462236e4a0fbbc973c6cea84e3d82429fd1b5c47d219e019f148b878", func := "loop.example/g00931/laws.FnExactDecimal", spec := "fnExactDecimal", named := ["internal/strconv.uint64pow10", "math/bits.deBruijn32tab", "math/bits.deBruijn64tab"], apart := false, laid := [("math/bits.deBruijn32tab", laid_math_bits_deBruijn32tab), ("math/bits.deBruijn64tab", laid_math_bits_deBruijn64tab), ("internal/strconv.uint64pow10", laid_internal_strconv_uint64pow10)], narrowed := true }
def FnExactDecimalUptoSaid : Prop := fnExactDecimalUptoRow.holds Tryd.pinned (OpenSpec.upto fnExactDecimalSpec)

/-- 'laws.FnExactReadDecimal', WHERE WHAT IT READS IS OF BULK AT MOST 1048576: true; the input reads as it did. -/
def fnExactReadDecimalUptoRow : OpenClaim := { program := "ytfkodbpkfoecoaadoor", sum := "fe3fb73c462236e4a0fbbc973c6cea84e3d82429fd1b5c47d219e019f148b878", func := "loop.example/g00931/laws.FnExactReadDecimal", spec := "fnExactReadDecimal", named := ["strconv.ErrSyntax", "strconv.ErrRange", "internal/strconv.uint64pow10", "math/bits.deBruijn32tab", "math/bits.deBruijn64tab"], apart := false, laid := [("math/bits.deBruijn32tab", laid_math_bits_deBruijn32tab), ("math/bits.deBruijn64tab", laid_math_bits_deBruijn64tab), ("internal/strconv.uint64pow10", laid_internal_strconv_uint64pow10), ("strconv.ErrRange", laid_strconv_ErrRange), ("strconv.ErrSyntax", laid_strconv_ErrSyntax)], narrowed := true }
def FnExactReadDecimalUptoSaid : Prop := fnExactReadDecimalUptoRow.holds Tryd.pinned (OpenSpec.upto fnExactReadDecimalSpec)

/-- 'laws.FnExactWalkSteps', WHERE WHAT IT READS IS OF BULK AT MOST 1048576: true; the input reads as it did. -/
def fnExactWalkStepsUptoRow : OpenClaim := { program := "ytfkodbpkfoecoaadoor", sum := "fe3fb73c462236e4a0fbbc973c6cea84e3d82429fd1b5c47d219e019f148b878", func := "loop.example/g00931/laws.FnExactWalkSteps", spec := "fnExactWalkSteps", unfollowed := true, recurses := true, named := ["loop.example/g00931/impl.turns"], leaving := true, apart := false, laid := [("loop.example/g00931/impl.turns", laid_loop_example_g00931_impl_turns)], narrowed := true }
def FnExactWalkStepsUptoSaid : Prop := fnExactWalkStepsUptoRow.holds Tryd.pinned (OpenSpec.upto fnExactWalkStepsSpec)

/-- 'laws.FnExactCurvesOf', WHERE WHAT IT READS IS OF BULK AT MOST 1048576: true; the input reads as it did. -/
def fnExactCurvesOfUptoRow : OpenClaim := { program := "ytfkodbpkfoecoaadoor", sum := "fe3fb73c462236e4a0fbbc973c6cea84e3d82429fd1b5c47d219e019f148b878", func := "loop.example/g00931/laws.FnExactCurvesOf", spec := "fnExactCurvesOf", inPlace := ["(*sync.WaitGroup).Add", "internal/race.ReleaseMerge", "internal/race.Disable", "internal/race.Enable", "internal/synctest.IsInBubble", "internal/synctest.Associate[sync.WaitGroup]", "sync.fatal", "sync/atomic.OrUint64", "sync/atomic.AddUint64", "internal/race.Read", "sync/atomic.LoadUint64", "sync/atomic.StoreUint64", "internal/synctest.Disassociate[sync.WaitGroup]", "sync.runtime_Semrelease", "(*sync.WaitGroup).Done", "(*sync.WaitGroup).Wait", "internal/race.Acquire", "internal/synctest.IsAssociated[sync.WaitGroup]", "sync/atomic.CompareAndSwapUint64", "internal/race.Write", "sync.runtime_SemacquireWaitGroup"], unfollowed := true, recurses := true, named := ["loop.example/g00931/impl.turns"], leaving := true, apart := false, laid := [("loop.example/g00931/impl.turns", laid_loop_example_g00931_impl_turns)], narrowed := true }
def FnExactCurvesOfUptoSaid : Prop := fnExactCurvesOfUptoRow.holds Tryd.pinned (OpenSpec.upto fnExactCurvesOfSpec)

/-- 'laws.FnExactCountCurves', WHERE WHAT IT READS IS OF BULK AT MOST 1048576: true; the input reads as it did. -/
def fnExactCountCurvesUptoRow : OpenClaim := { program := "ytfkodbpkfoecoaadoor", sum := "fe3fb73c462236e4a0fbbc973c6cea84e3d82429fd1b5c47d219e019f148b878", func := "loop.example/g00931/laws.FnExactCountCurves", spec := "fnExactCountCurves", unfollowed := true, recurses := true, named := ["loop.example/g00931/impl.turns"], leaving := true, apart := false, laid := [("loop.example/g00931/impl.turns", laid_loop_example_g00931_impl_turns)], narrowed := true }
def FnExactCountCurvesUptoSaid : Prop := fnExactCountCurvesUptoRow.holds Tryd.pinned (OpenSpec.upto fnExactCountCurvesSpec)

/-- 'laws.FnExactCurveAt', WHERE WHAT IT READS IS OF BULK AT MOST 1048576: true; the input reads as it did. -/
def fnExactCurveAtUptoRow : OpenClaim := { program := "ytfkodbpkfoecoaadoor", sum := "fe3fb73c462236e4a0fbbc973c6cea84e3d82429fd1b5c47d219e019f148b878", func := "loop.example/g00931/laws.FnExactCurveAt", spec := "fnExactCurveAt", unfollowed := true, recurses := true, named := ["loop.example/g00931/impl.turns"], leaving := true, apart := false, laid := [("loop.example/g00931/impl.turns", laid_loop_example_g00931_impl_turns)], narrowed := true }
def FnExactCurveAtUptoSaid : Prop := fnExactCurveAtUptoRow.holds Tryd.pinned (OpenSpec.upto fnExactCurveAtSpec)

/-- 'laws.FnExactCurveLengths', WHERE WHAT IT READS IS OF BULK AT MOST 1048576: true; the input reads as it did. -/
def fnExactCurveLengthsUptoRow : OpenClaim := { program := "ytfkodbpkfoecoaadoor", sum := "fe3fb73c462236e4a0fbbc973c6cea84e3d82429fd1b5c47d219e019f148b878", func := "loop.example/g00931/laws.FnExactCurveLengths", spec := "fnExactCurveLengths", unfollowed := true, recurses := true, named := ["loop.example/g00931/impl.turns"], leaving := true, apart := false, laid := [("loop.example/g00931/impl.turns", laid_loop_example_g00931_impl_turns)], narrowed := true }
def FnExactCurveLengthsUptoSaid : Prop := fnExactCurveLengthsUptoRow.holds Tryd.pinned (OpenSpec.upto fnExactCurveLengthsSpec)

/-- 'laws.FnExactSegmentCurves', WHERE WHAT IT READS IS OF BULK AT MOST 1048576: true; the input reads as it did. -/
def fnExactSegmentCurvesUptoRow : OpenClaim := { program := "ytfkodbpkfoecoaadoor", sum := "fe3fb73c462236e4a0fbbc973c6cea84e3d82429fd1b5c47d219e019f148b878", func := "loop.example/g00931/laws.FnExactSegmentCurves", spec := "fnExactSegmentCurves", unfollowed := true, recurses := true, named := ["loop.example/g00931/impl.turns"], leaving := true, apart := false, laid := [("loop.example/g00931/impl.turns", laid_loop_example_g00931_impl_turns)], narrowed := true }
def FnExactSegmentCurvesUptoSaid : Prop := fnExactSegmentCurvesUptoRow.holds Tryd.pinned (OpenSpec.upto fnExactSegmentCurvesSpec)

end Rows
end Go.Proofs.YtfkodbpkfoecoaaDoor
