/-
  No cell of these rows narrows 'for every input' (looked for: loops, veiled, ifaces, maps, wideKeys, modest, calm, conditions, laid).
  DERIVED. THE GIVEN ROWS OF THIS SEAT. 12 by the template 'for every input the law returns true; each argument reads behind the call as it read before'; 0 by the template 'total and deterministic' (their statements: YtfgbfmpolhilcaaTotals.lean).
  GIVEN WITH THE SEED: the statements are not yours to turn. If you find one false, say at which input.
  Laid BY PROGRAM, IN A SANDBOX (cutbox-rows.mjs): the forced cells as the released guide's own fill.sh prints them over the translation 68a6604ba8ec560c… (all of the seat's roots in one cut). By AI agents, Wed Nov 11 2026. No macro, syntax, notation, axiom, sorry.
-/
import Derived.Test.YtfgbfmpolhilcaaChecked
import GoSem.Claim
import GoSem.ClaimJoined
import GoSem.ClaimMapViews
import Derived.JoinedTies
import Derived.KernelRfl
namespace Go.Proofs.Ytfgbfmpolhilcaa
/- THE CELL 'sum', in the pinned program and in every row, IS THE sha256 OF THE DUMP (.gsa) THAT YtfgbfmpolhilcaaProg.lean LOADS. Nothing in Lean hashes anything: it is a label: what it is worth is what the hold of that sum in a sandbox is worth. -/
noncomputable def Try.pinned : Pinned := { name := "ytfgbfmpolhilcaa", sum := "68a6604ba8ec560c17d733578663b937ca1546068190ea524ea26cdae8d8c4a9", checked := Try.checked }
namespace Rows
def none {H : Type} : Left H := { results := [], args := [] }

/-- 'laws.FnExactGreatestDivisor': WHATEVER THE INPUT: true; the input reads as it did. -/
def fnExactGreatestDivisorSpec : ChangeSpec := { name := "fnExactGreatestDivisor", fn := fun _ => fun
  | [d1, d2] => { results := [.lit (.bool true)], args := [d1, d2] }
  | _ => none }
def fnExactGreatestDivisorRow : OpenClaim := { program := "ytfgbfmpolhilcaa", sum := "68a6604ba8ec560c17d733578663b937ca1546068190ea524ea26cdae8d8c4a9", func := "loop.example/g00931/laws.FnExactGreatestDivisor", spec := "fnExactGreatestDivisor", recurses := true, apart := false }
def FnExactGreatestDivisorSaid : Prop := fnExactGreatestDivisorRow.holds Try.pinned (OpenSpec.ofChange fnExactGreatestDivisorSpec)

/-- ITS FALSE NEIGHBOUR: 'it returns false'. Refute it at one input. -/
def fnExactGreatestDivisorWrong : ChangeSpec := { name := "fnExactGreatestDivisor", fn := fun _ => fun
  | [d1, d2] => { results := [.lit (.bool false)], args := [d1, d2] }
  | _ => none }
def FnExactGreatestDivisorWrongFalsely : Prop := fnExactGreatestDivisorRow.holds Try.pinned (OpenSpec.ofChange fnExactGreatestDivisorWrong)

/-- 'laws.FnExactLeastMultiple': WHATEVER THE INPUT: true; the input reads as it did. -/
def fnExactLeastMultipleSpec : ChangeSpec := { name := "fnExactLeastMultiple", fn := fun _ => fun
  | [d1, d2] => { results := [.lit (.bool true)], args := [d1, d2] }
  | _ => none }
def fnExactLeastMultipleRow : OpenClaim := { program := "ytfgbfmpolhilcaa", sum := "68a6604ba8ec560c17d733578663b937ca1546068190ea524ea26cdae8d8c4a9", func := "loop.example/g00931/laws.FnExactLeastMultiple", spec := "fnExactLeastMultiple", recurses := true, apart := false }
def FnExactLeastMultipleSaid : Prop := fnExactLeastMultipleRow.holds Try.pinned (OpenSpec.ofChange fnExactLeastMultipleSpec)

/-- ITS FALSE NEIGHBOUR: 'it returns false'. Refute it at one input. -/
def fnExactLeastMultipleWrong : ChangeSpec := { name := "fnExactLeastMultiple", fn := fun _ => fun
  | [d1, d2] => { results := [.lit (.bool false)], args := [d1, d2] }
  | _ => none }
def FnExactLeastMultipleWrongFalsely : Prop := fnExactLeastMultipleRow.holds Try.pinned (OpenSpec.ofChange fnExactLeastMultipleWrong)

/-- 'laws.FnExactPlainCurves': WHATEVER THE INPUT: true; the input reads as it did. -/
def fnExactPlainCurvesSpec : ChangeSpec := { name := "fnExactPlainCurves", fn := fun _ => fun
  | [d1, d2] => { results := [.lit (.bool true)], args := [d1, d2] }
  | _ => none }
def fnExactPlainCurvesRow : OpenClaim := { program := "ytfgbfmpolhilcaa", sum := "68a6604ba8ec560c17d733578663b937ca1546068190ea524ea26cdae8d8c4a9", func := "loop.example/g00931/laws.FnExactPlainCurves", spec := "fnExactPlainCurves", recurses := true, apart := false }
def FnExactPlainCurvesSaid : Prop := fnExactPlainCurvesRow.holds Try.pinned (OpenSpec.ofChange fnExactPlainCurvesSpec)

/-- ITS FALSE NEIGHBOUR: 'it returns false'. Refute it at one input. -/
def fnExactPlainCurvesWrong : ChangeSpec := { name := "fnExactPlainCurves", fn := fun _ => fun
  | [d1, d2] => { results := [.lit (.bool false)], args := [d1, d2] }
  | _ => none }
def FnExactPlainCurvesWrongFalsely : Prop := fnExactPlainCurvesRow.holds Try.pinned (OpenSpec.ofChange fnExactPlainCurvesWrong)

/-- 'laws.FnExactPlainLength': WHATEVER THE INPUT: true; the input reads as it did. -/
def fnExactPlainLengthSpec : ChangeSpec := { name := "fnExactPlainLength", fn := fun _ => fun
  | [d1, d2] => { results := [.lit (.bool true)], args := [d1, d2] }
  | _ => none }
def fnExactPlainLengthRow : OpenClaim := { program := "ytfgbfmpolhilcaa", sum := "68a6604ba8ec560c17d733578663b937ca1546068190ea524ea26cdae8d8c4a9", func := "loop.example/g00931/laws.FnExactPlainLength", spec := "fnExactPlainLength", recurses := true, apart := false }
def FnExactPlainLengthSaid : Prop := fnExactPlainLengthRow.holds Try.pinned (OpenSpec.ofChange fnExactPlainLengthSpec)

/-- ITS FALSE NEIGHBOUR: 'it returns false'. Refute it at one input. -/
def fnExactPlainLengthWrong : ChangeSpec := { name := "fnExactPlainLength", fn := fun _ => fun
  | [d1, d2] => { results := [.lit (.bool false)], args := [d1, d2] }
  | _ => none }
def FnExactPlainLengthWrongFalsely : Prop := fnExactPlainLengthRow.holds Try.pinned (OpenSpec.ofChange fnExactPlainLengthWrong)

/-- 'laws.FnExactPlainTouches': WHATEVER THE INPUT: true; the input reads as it did. -/
def fnExactPlainTouchesSpec : ChangeSpec := { name := "fnExactPlainTouches", fn := fun _ => fun
  | [d1, d2] => { results := [.lit (.bool true)], args := [d1, d2] }
  | _ => none }
def fnExactPlainTouchesRow : OpenClaim := { program := "ytfgbfmpolhilcaa", sum := "68a6604ba8ec560c17d733578663b937ca1546068190ea524ea26cdae8d8c4a9", func := "loop.example/g00931/laws.FnExactPlainTouches", spec := "fnExactPlainTouches", recurses := true, apart := false }
def FnExactPlainTouchesSaid : Prop := fnExactPlainTouchesRow.holds Try.pinned (OpenSpec.ofChange fnExactPlainTouchesSpec)

/-- ITS FALSE NEIGHBOUR: 'it returns false'. Refute it at one input. -/
def fnExactPlainTouchesWrong : ChangeSpec := { name := "fnExactPlainTouches", fn := fun _ => fun
  | [d1, d2] => { results := [.lit (.bool false)], args := [d1, d2] }
  | _ => none }
def FnExactPlainTouchesWrongFalsely : Prop := fnExactPlainTouchesRow.holds Try.pinned (OpenSpec.ofChange fnExactPlainTouchesWrong)

/-- 'laws.FnExactPlainWalk': WHATEVER THE INPUT: true; the input reads as it did. -/
def fnExactPlainWalkSpec : ChangeSpec := { name := "fnExactPlainWalk", fn := fun _ => fun
  | [d1, d2, d3, d4] => { results := [.lit (.bool true)], args := [d1, d2, d3, d4] }
  | _ => none }
def fnExactPlainWalkRow : OpenClaim := { program := "ytfgbfmpolhilcaa", sum := "68a6604ba8ec560c17d733578663b937ca1546068190ea524ea26cdae8d8c4a9", func := "loop.example/g00931/laws.FnExactPlainWalk", spec := "fnExactPlainWalk", unfollowed := true, recurses := true, apart := false }
def FnExactPlainWalkSaid : Prop := fnExactPlainWalkRow.holds Try.pinned (OpenSpec.ofChange fnExactPlainWalkSpec)

/-- ITS FALSE NEIGHBOUR: 'it returns false'. Refute it at one input. -/
def fnExactPlainWalkWrong : ChangeSpec := { name := "fnExactPlainWalk", fn := fun _ => fun
  | [d1, d2, d3, d4] => { results := [.lit (.bool false)], args := [d1, d2, d3, d4] }
  | _ => none }
def FnExactPlainWalkWrongFalsely : Prop := fnExactPlainWalkRow.holds Try.pinned (OpenSpec.ofChange fnExactPlainWalkWrong)

/-- 'laws.FnExactPlainReturn': WHATEVER THE INPUT: true; the input reads as it did. -/
def fnExactPlainReturnSpec : ChangeSpec := { name := "fnExactPlainReturn", fn := fun _ => fun
  | [d1, d2, d3] => { results := [.lit (.bool true)], args := [d1, d2, d3] }
  | _ => none }
def fnExactPlainReturnRow : OpenClaim := { program := "ytfgbfmpolhilcaa", sum := "68a6604ba8ec560c17d733578663b937ca1546068190ea524ea26cdae8d8c4a9", func := "loop.example/g00931/laws.FnExactPlainReturn", spec := "fnExactPlainReturn", recurses := true, apart := false }
def FnExactPlainReturnSaid : Prop := fnExactPlainReturnRow.holds Try.pinned (OpenSpec.ofChange fnExactPlainReturnSpec)

/-- ITS FALSE NEIGHBOUR: 'it returns false'. Refute it at one input. -/
def fnExactPlainReturnWrong : ChangeSpec := { name := "fnExactPlainReturn", fn := fun _ => fun
  | [d1, d2, d3] => { results := [.lit (.bool false)], args := [d1, d2, d3] }
  | _ => none }
def FnExactPlainReturnWrongFalsely : Prop := fnExactPlainReturnRow.holds Try.pinned (OpenSpec.ofChange fnExactPlainReturnWrong)

/-- 'laws.FnExactSingleSizes': WHATEVER THE INPUT: true; the input reads as it did. -/
def fnExactSingleSizesSpec : ChangeSpec := { name := "fnExactSingleSizes", fn := fun _ => fun
  | [d] => { results := [.lit (.bool true)], args := [d] }
  | _ => none }
def fnExactSingleSizesRow : OpenClaim := { program := "ytfgbfmpolhilcaa", sum := "68a6604ba8ec560c17d733578663b937ca1546068190ea524ea26cdae8d8c4a9", func := "loop.example/g00931/laws.FnExactSingleSizes", spec := "fnExactSingleSizes", recurses := true, apart := false }
def FnExactSingleSizesSaid : Prop := fnExactSingleSizesRow.holds Try.pinned (OpenSpec.ofChange fnExactSingleSizesSpec)

/-- ITS FALSE NEIGHBOUR: 'it returns false'. Refute it at one input. -/
def fnExactSingleSizesWrong : ChangeSpec := { name := "fnExactSingleSizes", fn := fun _ => fun
  | [d] => { results := [.lit (.bool false)], args := [d] }
  | _ => none }
def FnExactSingleSizesWrongFalsely : Prop := fnExactSingleSizesRow.holds Try.pinned (OpenSpec.ofChange fnExactSingleSizesWrong)

/-- 'laws.FnExactStripCurves': WHATEVER THE INPUT: true; the input reads as it did. -/
def fnExactStripCurvesSpec : ChangeSpec := { name := "fnExactStripCurves", fn := fun _ => fun
  | [d] => { results := [.lit (.bool true)], args := [d] }
  | _ => none }
def fnExactStripCurvesRow : OpenClaim := { program := "ytfgbfmpolhilcaa", sum := "68a6604ba8ec560c17d733578663b937ca1546068190ea524ea26cdae8d8c4a9", func := "loop.example/g00931/laws.FnExactStripCurves", spec := "fnExactStripCurves", apart := false }
def FnExactStripCurvesSaid : Prop := fnExactStripCurvesRow.holds Try.pinned (OpenSpec.ofChange fnExactStripCurvesSpec)

/-- ITS FALSE NEIGHBOUR: 'it returns false'. Refute it at one input. -/
def fnExactStripCurvesWrong : ChangeSpec := { name := "fnExactStripCurves", fn := fun _ => fun
  | [d] => { results := [.lit (.bool false)], args := [d] }
  | _ => none }
def FnExactStripCurvesWrongFalsely : Prop := fnExactStripCurvesRow.holds Try.pinned (OpenSpec.ofChange fnExactStripCurvesWrong)

/-- 'laws.FnExactNewJoined': WHATEVER THE INPUT: true; the input reads as it did. -/
def fnExactNewJoinedSpec : ChangeSpec := { name := "fnExactNewJoined", fn := fun _ => fun
  | [d] => { results := [.lit (.bool true)], args := [d] }
  | _ => none }
def fnExactNewJoinedRow : OpenClaim := { program := "ytfgbfmpolhilcaa", sum := "68a6604ba8ec560c17d733578663b937ca1546068190ea524ea26cdae8d8c4a9", func := "loop.example/g00931/laws.FnExactNewJoined", spec := "fnExactNewJoined", apart := false }
def FnExactNewJoinedSaid : Prop := fnExactNewJoinedRow.holds Try.pinned (OpenSpec.ofChange fnExactNewJoinedSpec)

/-- ITS FALSE NEIGHBOUR: 'it returns false'. Refute it at one input. -/
def fnExactNewJoinedWrong : ChangeSpec := { name := "fnExactNewJoined", fn := fun _ => fun
  | [d] => { results := [.lit (.bool false)], args := [d] }
  | _ => none }
def FnExactNewJoinedWrongFalsely : Prop := fnExactNewJoinedRow.holds Try.pinned (OpenSpec.ofChange fnExactNewJoinedWrong)

/-- 'laws.FnExactSameJoined': WHATEVER THE INPUT: true; the input reads as it did. -/
def fnExactSameJoinedSpec : ChangeSpec := { name := "fnExactSameJoined", fn := fun _ => fun
  | [d1, d2] => { results := [.lit (.bool true)], args := [d1, d2] }
  | _ => none }
def fnExactSameJoinedRow : OpenClaim := { program := "ytfgbfmpolhilcaa", sum := "68a6604ba8ec560c17d733578663b937ca1546068190ea524ea26cdae8d8c4a9", func := "loop.example/g00931/laws.FnExactSameJoined", spec := "fnExactSameJoined", apart := false }
def FnExactSameJoinedSaid : Prop := fnExactSameJoinedRow.holds Try.pinned (OpenSpec.ofChange fnExactSameJoinedSpec)

/-- ITS FALSE NEIGHBOUR: 'it returns false'. Refute it at one input. -/
def fnExactSameJoinedWrong : ChangeSpec := { name := "fnExactSameJoined", fn := fun _ => fun
  | [d1, d2] => { results := [.lit (.bool false)], args := [d1, d2] }
  | _ => none }
def FnExactSameJoinedWrongFalsely : Prop := fnExactSameJoinedRow.holds Try.pinned (OpenSpec.ofChange fnExactSameJoinedWrong)

/-- 'laws.FnExactCountGroups': WHATEVER THE INPUT: true; the input reads as it did. -/
def fnExactCountGroupsSpec : ChangeSpec := { name := "fnExactCountGroups", fn := fun _ => fun
  | [d] => { results := [.lit (.bool true)], args := [d] }
  | _ => none }
def fnExactCountGroupsRow : OpenClaim := { program := "ytfgbfmpolhilcaa", sum := "68a6604ba8ec560c17d733578663b937ca1546068190ea524ea26cdae8d8c4a9", func := "loop.example/g00931/laws.FnExactCountGroups", spec := "fnExactCountGroups", apart := false }
def FnExactCountGroupsSaid : Prop := fnExactCountGroupsRow.holds Try.pinned (OpenSpec.ofChange fnExactCountGroupsSpec)

/-- ITS FALSE NEIGHBOUR: 'it returns false'. Refute it at one input. -/
def fnExactCountGroupsWrong : ChangeSpec := { name := "fnExactCountGroups", fn := fun _ => fun
  | [d] => { results := [.lit (.bool false)], args := [d] }
  | _ => none }
def FnExactCountGroupsWrongFalsely : Prop := fnExactCountGroupsRow.holds Try.pinned (OpenSpec.ofChange fnExactCountGroupsWrong)

/- THE SECOND FORM. 'bulk': how many values and letters a reading holds, each counted each time it is reached (what is shared counts as often as it is met; a slice's spare places count too). A statement '..UptoSaid' is the law's where the arguments, and the package variables that the reading takes, are together of bulk at most 1048576: NARROWER than '..Said'. Prove '..Said' where nothing that the law and all that it calls make is longer than what came in: it says more and counts as full. Else prove '..UptoSaid'. A law counts once. -/
mutual
def uptoBulk {H : Type} : DataW H → Nat
  | .lit (.string bytes) => bytes.length + 1
  | .lit _ => 1
  | .nil => 1
  | .ptr d => uptoBulk d + 1
  | .slice elems spare => uptoBulkAll elems + uptoBulkAll spare + 1
  | .agg parts => uptoBulkAll parts + 1
  | .iface _ d => uptoBulk d + 1
  | .map entries => uptoBulkEntries entries + 1
  | .held _ => 1
def uptoBulkAll {H : Type} : List (DataW H) → Nat
  | [] => 0
  | d :: r => uptoBulk d + uptoBulkAll r
def uptoBulkEntries {H : Type} : List (Lit × DataW H) → Nat
  | [] => 0
  | x :: r => uptoBulkEntry x + uptoBulkEntries r
def uptoBulkEntry {H : Type} : Lit × DataW H → Nat
  | (.string bytes, d) => bytes.length + uptoBulk d + 1
  | (_, d) => uptoBulk d + 1
 end
def uptoSmall : (H : Type) → List (DataW H) → Bool := fun _ ds => decide (uptoBulkAll ds ≤ 1048576)
def OpenSpec.upto (s : _root_.Go.ChangeSpec) : _root_.Go.OpenSpec := { _root_.Go.OpenSpec.ofChange s with cond := some uptoSmall }

/-- 'laws.FnExactGreatestDivisor', WHERE WHAT IT READS IS OF BULK AT MOST 1048576: true; the input reads as it did. -/
def fnExactGreatestDivisorUptoRow : OpenClaim := { program := "ytfgbfmpolhilcaa", sum := "68a6604ba8ec560c17d733578663b937ca1546068190ea524ea26cdae8d8c4a9", func := "loop.example/g00931/laws.FnExactGreatestDivisor", spec := "fnExactGreatestDivisor", recurses := true, apart := false, narrowed := true }
def FnExactGreatestDivisorUptoSaid : Prop := fnExactGreatestDivisorUptoRow.holds Try.pinned (OpenSpec.upto fnExactGreatestDivisorSpec)

/-- 'laws.FnExactLeastMultiple', WHERE WHAT IT READS IS OF BULK AT MOST 1048576: true; the input reads as it did. -/
def fnExactLeastMultipleUptoRow : OpenClaim := { program := "ytfgbfmpolhilcaa", sum := "68a6604ba8ec560c17d733578663b937ca1546068190ea524ea26cdae8d8c4a9", func := "loop.example/g00931/laws.FnExactLeastMultiple", spec := "fnExactLeastMultiple", recurses := true, apart := false, narrowed := true }
def FnExactLeastMultipleUptoSaid : Prop := fnExactLeastMultipleUptoRow.holds Try.pinned (OpenSpec.upto fnExactLeastMultipleSpec)

/-- 'laws.FnExactPlainCurves', WHERE WHAT IT READS IS OF BULK AT MOST 1048576: true; the input reads as it did. -/
def fnExactPlainCurvesUptoRow : OpenClaim := { program := "ytfgbfmpolhilcaa", sum := "68a6604ba8ec560c17d733578663b937ca1546068190ea524ea26cdae8d8c4a9", func := "loop.example/g00931/laws.FnExactPlainCurves", spec := "fnExactPlainCurves", recurses := true, apart := false, narrowed := true }
def FnExactPlainCurvesUptoSaid : Prop := fnExactPlainCurvesUptoRow.holds Try.pinned (OpenSpec.upto fnExactPlainCurvesSpec)

/-- 'laws.FnExactPlainLength', WHERE WHAT IT READS IS OF BULK AT MOST 1048576: true; the input reads as it did. -/
def fnExactPlainLengthUptoRow : OpenClaim := { program := "ytfgbfmpolhilcaa", sum := "68a6604ba8ec560c17d733578663b937ca1546068190ea524ea26cdae8d8c4a9", func := "loop.example/g00931/laws.FnExactPlainLength", spec := "fnExactPlainLength", recurses := true, apart := false, narrowed := true }
def FnExactPlainLengthUptoSaid : Prop := fnExactPlainLengthUptoRow.holds Try.pinned (OpenSpec.upto fnExactPlainLengthSpec)

/-- 'laws.FnExactPlainTouches', WHERE WHAT IT READS IS OF BULK AT MOST 1048576: true; the input reads as it did. -/
def fnExactPlainTouchesUptoRow : OpenClaim := { program := "ytfgbfmpolhilcaa", sum := "68a6604ba8ec560c17d733578663b937ca1546068190ea524ea26cdae8d8c4a9", func := "loop.example/g00931/laws.FnExactPlainTouches", spec := "fnExactPlainTouches", recurses := true, apart := false, narrowed := true }
def FnExactPlainTouchesUptoSaid : Prop := fnExactPlainTouchesUptoRow.holds Try.pinned (OpenSpec.upto fnExactPlainTouchesSpec)

/-- 'laws.FnExactPlainWalk', WHERE WHAT IT READS IS OF BULK AT MOST 1048576: true; the input reads as it did. -/
def fnExactPlainWalkUptoRow : OpenClaim := { program := "ytfgbfmpolhilcaa", sum := "68a6604ba8ec560c17d733578663b937ca1546068190ea524ea26cdae8d8c4a9", func := "loop.example/g00931/laws.FnExactPlainWalk", spec := "fnExactPlainWalk", unfollowed := true, recurses := true, apart := false, narrowed := true }
def FnExactPlainWalkUptoSaid : Prop := fnExactPlainWalkUptoRow.holds Try.pinned (OpenSpec.upto fnExactPlainWalkSpec)

/-- 'laws.FnExactPlainReturn', WHERE WHAT IT READS IS OF BULK AT MOST 1048576: true; the input reads as it did. -/
def fnExactPlainReturnUptoRow : OpenClaim := { program := "ytfgbfmpolhilcaa", sum := "68a6604ba8ec560c17d733578663b937ca1546068190ea524ea26cdae8d8c4a9", func := "loop.example/g00931/laws.FnExactPlainReturn", spec := "fnExactPlainReturn", recurses := true, apart := false, narrowed := true }
def FnExactPlainReturnUptoSaid : Prop := fnExactPlainReturnUptoRow.holds Try.pinned (OpenSpec.upto fnExactPlainReturnSpec)

/-- 'laws.FnExactSingleSizes', WHERE WHAT IT READS IS OF BULK AT MOST 1048576: true; the input reads as it did. -/
def fnExactSingleSizesUptoRow : OpenClaim := { program := "ytfgbfmpolhilcaa", sum := "68a6604ba8ec560c17d733578663b937ca1546068190ea524ea26cdae8d8c4a9", func := "loop.example/g00931/laws.FnExactSingleSizes", spec := "fnExactSingleSizes", recurses := true, apart := false, narrowed := true }
def FnExactSingleSizesUptoSaid : Prop := fnExactSingleSizesUptoRow.holds Try.pinned (OpenSpec.upto fnExactSingleSizesSpec)

/-- 'laws.FnExactStripCurves', WHERE WHAT IT READS IS OF BULK AT MOST 1048576: true; the input reads as it did. -/
def fnExactStripCurvesUptoRow : OpenClaim := { program := "ytfgbfmpolhilcaa", sum := "68a6604ba8ec560c17d733578663b937ca1546068190ea524ea26cdae8d8c4a9", func := "loop.example/g00931/laws.FnExactStripCurves", spec := "fnExactStripCurves", apart := false, narrowed := true }
def FnExactStripCurvesUptoSaid : Prop := fnExactStripCurvesUptoRow.holds Try.pinned (OpenSpec.upto fnExactStripCurvesSpec)

/-- 'laws.FnExactNewJoined', WHERE WHAT IT READS IS OF BULK AT MOST 1048576: true; the input reads as it did. -/
def fnExactNewJoinedUptoRow : OpenClaim := { program := "ytfgbfmpolhilcaa", sum := "68a6604ba8ec560c17d733578663b937ca1546068190ea524ea26cdae8d8c4a9", func := "loop.example/g00931/laws.FnExactNewJoined", spec := "fnExactNewJoined", apart := false, narrowed := true }
def FnExactNewJoinedUptoSaid : Prop := fnExactNewJoinedUptoRow.holds Try.pinned (OpenSpec.upto fnExactNewJoinedSpec)

/-- 'laws.FnExactSameJoined', WHERE WHAT IT READS IS OF BULK AT MOST 1048576: true; the input reads as it did. -/
def fnExactSameJoinedUptoRow : OpenClaim := { program := "ytfgbfmpolhilcaa", sum := "68a6604ba8ec560c17d733578663b937ca1546068190ea524ea26cdae8d8c4a9", func := "loop.example/g00931/laws.FnExactSameJoined", spec := "fnExactSameJoined", apart := false, narrowed := true }
def FnExactSameJoinedUptoSaid : Prop := fnExactSameJoinedUptoRow.holds Try.pinned (OpenSpec.upto fnExactSameJoinedSpec)

/-- 'laws.FnExactCountGroups', WHERE WHAT IT READS IS OF BULK AT MOST 1048576: true; the input reads as it did. -/
def fnExactCountGroupsUptoRow : OpenClaim := { program := "ytfgbfmpolhilcaa", sum := "68a6604ba8ec560c17d733578663b937ca1546068190ea524ea26cdae8d8c4a9", func := "loop.example/g00931/laws.FnExactCountGroups", spec := "fnExactCountGroups", apart := false, narrowed := true }
def FnExactCountGroupsUptoSaid : Prop := fnExactCountGroupsUptoRow.holds Try.pinned (OpenSpec.upto fnExactCountGroupsSpec)

end Rows
end Go.Proofs.Ytfgbfmpolhilcaa
