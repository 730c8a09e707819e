/-
  NARROWER THAN 'FOR EVERY INPUT', by the rows' own cells (each row's printed sentence says how): FnExactEffectOf: laid · FnExactEffectsAt: laid · FnExactJoiningPoints: laid · FnExactDividingPoints: laid · FnExactPairsOf: laid · FnExactJoinPanel: laid · FnSharedPoints: laid · FnExactEditsText: laid.
  DERIVED. THE GIVEN ROWS OF THIS SEAT. 8 by the template 'for every input the law returns true; each argument reads behind the call as it read before'; 0 by the template 'total and deterministic' (their statements: YtjgclemfehfgiaaDoorTotals.lean).
  GIVEN WITH THE SEED: the statements are not yours to turn. If you find one false, say at which input.
  Laid BY PROGRAM, IN A SANDBOX (cutbox-rows.mjs): the forced cells as the released guide's own fill.sh prints them over the translation 30c9ceb9be5d6bcd… (all of the seat's roots in one cut). By AI agents, Wed Nov 11 2026. No macro, syntax, notation, axiom, sorry.
-/
import Derived.Test.YtjgclemfehfgiaaDoorChecked
import GoSem.Claim
import GoSem.ClaimJoined
import GoSem.ClaimMapViews
import Derived.JoinedTies
import Derived.KernelRfl
namespace Go.Proofs.YtjgclemfehfgiaaDoor
/- THE CELL 'sum', in the pinned program and in every row, IS THE sha256 OF THE DUMP (.gsa) THAT YtjgclemfehfgiaaDoorProg.lean LOADS. Nothing in Lean hashes anything: it is a label: what it is worth is what the hold of that sum in a sandbox is worth. -/
noncomputable def Tryd.pinned : Pinned := { name := "ytjgclemfehfgiaadoor", sum := "30c9ceb9be5d6bcdc4a48952ba4b7c39ea3e641ea77c027680ebc6bac1bdcc72", checked := Tryd.checked }
namespace Rows
def none {H : Type} : Left H := { results := [], args := [] }

/- WHAT THE LISTED PACKAGE-LEVEL VARIABLES READ AS WHEN THE CALL BEGINS. Each datum BY PROGRAM (the guide's laid-datum.mjs) off the statement by which the dump's own 'gosem.cut.vars' lays the variable. In a bare row this is a premise. The card (YtjgclemfehfgiaaDoorCards.lean) ties it to the program's text. -/
def laid_loop_example_g00931_impl_directions {H : Type} : DataW H := .agg [.agg [.lit (.int .i64 (-1)), .lit (.int .i64 (-1))], .agg [.lit (.int .i64 1), .lit (.int .i64 (-1))], .agg [.lit (.int .i64 (-1)), .lit (.int .i64 1)], .agg [.lit (.int .i64 1), .lit (.int .i64 1)]]
def laid_loop_example_g00931_impl_joinedDirections {H : Type} : DataW H := .agg [.agg [.agg [.lit (.int .i64 0), .lit (.int .i64 3)], .agg [.lit (.int .i64 1), .lit (.int .i64 2)]], .agg [.agg [.lit (.int .i64 0), .lit (.int .i64 2)], .agg [.lit (.int .i64 1), .lit (.int .i64 3)]], .agg [.agg [.lit (.int .i64 0), .lit (.int .i64 1)], .agg [.lit (.int .i64 2), .lit (.int .i64 3)]]]
def laid_loop_example_g00931_impl_turns {H : Type} : DataW H := .agg [.agg [.lit (.int .i64 1), .lit (.int .i64 1)], .agg [.lit (.int .i64 (-1)), .lit (.int .i64 1)], .agg [.lit (.int .i64 1), .lit (.int .i64 (-1))]]
def laid_math_bits_deBruijn32tab {H : Type} : DataW H := .agg [.lit (.int .u8 0), .lit (.int .u8 1), .lit (.int .u8 28), .lit (.int .u8 2), .lit (.int .u8 29), .lit (.int .u8 14), .lit (.int .u8 24), .lit (.int .u8 3), .lit (.int .u8 30), .lit (.int .u8 22), .lit (.int .u8 20), .lit (.int .u8 15), .lit (.int .u8 25), .lit (.int .u8 17), .lit (.int .u8 4), .lit (.int .u8 8), .lit (.int .u8 31), .lit (.int .u8 27), .lit (.int .u8 13), .lit (.int .u8 23), .lit (.int .u8 21), .lit (.int .u8 19), .lit (.int .u8 16), .lit (.int .u8 7), .lit (.int .u8 26), .lit (.int .u8 12), .lit (.int .u8 18), .lit (.int .u8 6), .lit (.int .u8 11), .lit (.int .u8 5), .lit (.int .u8 10), .lit (.int .u8 9)]
def laid_math_bits_deBruijn64tab {H : Type} : DataW H := .agg [.lit (.int .u8 0), .lit (.int .u8 1), .lit (.int .u8 56), .lit (.int .u8 2), .lit (.int .u8 57), .lit (.int .u8 49), .lit (.int .u8 28), .lit (.int .u8 3), .lit (.int .u8 61), .lit (.int .u8 58), .lit (.int .u8 42), .lit (.int .u8 50), .lit (.int .u8 38), .lit (.int .u8 29), .lit (.int .u8 17), .lit (.int .u8 4), .lit (.int .u8 62), .lit (.int .u8 47), .lit (.int .u8 59), .lit (.int .u8 36), .lit (.int .u8 45), .lit (.int .u8 43), .lit (.int .u8 51), .lit (.int .u8 22), .lit (.int .u8 53), .lit (.int .u8 39), .lit (.int .u8 33), .lit (.int .u8 30), .lit (.int .u8 24), .lit (.int .u8 18), .lit (.int .u8 12), .lit (.int .u8 5), .lit (.int .u8 63), .lit (.int .u8 55), .lit (.int .u8 48), .lit (.int .u8 27), .lit (.int .u8 60), .lit (.int .u8 41), .lit (.int .u8 37), .lit (.int .u8 16), .lit (.int .u8 46), .lit (.int .u8 35), .lit (.int .u8 44), .lit (.int .u8 21), .lit (.int .u8 52), .lit (.int .u8 32), .lit (.int .u8 23), .lit (.int .u8 11), .lit (.int .u8 54), .lit (.int .u8 26), .lit (.int .u8 40), .lit (.int .u8 15), .lit (.int .u8 34), .lit (.int .u8 20), .lit (.int .u8 31), .lit (.int .u8 10), .lit (.int .u8 25), .lit (.int .u8 14), .lit (.int .u8 19), .lit (.int .u8 9), .lit (.int .u8 13), .lit (.int .u8 8), .lit (.int .u8 7), .lit (.int .u8 6)]
def laid_internal_strconv_uint64pow10 {H : Type} : DataW H := .agg [.lit (.int .u64 1), .lit (.int .u64 10), .lit (.int .u64 100), .lit (.int .u64 1000), .lit (.int .u64 10000), .lit (.int .u64 100000), .lit (.int .u64 1000000), .lit (.int .u64 10000000), .lit (.int .u64 100000000), .lit (.int .u64 1000000000), .lit (.int .u64 10000000000), .lit (.int .u64 100000000000), .lit (.int .u64 1000000000000), .lit (.int .u64 10000000000000), .lit (.int .u64 100000000000000), .lit (.int .u64 1000000000000000), .lit (.int .u64 10000000000000000), .lit (.int .u64 100000000000000000), .lit (.int .u64 1000000000000000000), .lit (.int .u64 10000000000000000000)]

/-- 'laws.FnExactEffectOf': WHATEVER THE INPUT: true; the input reads as it did. -/
def fnExactEffectOfSpec : ChangeSpec := { name := "fnExactEffectOf", vars := ["loop.example/g00931/impl.joinedDirections", "loop.example/g00931/impl.directions"], fn := fun _ => fun
  | [d1, d2, d3, g1, g2] => { results := [.lit (.bool true)], args := [d1, d2, d3], vars := [g1, g2] }
  | _ => none }
def fnExactEffectOfRow : OpenClaim := { program := "ytjgclemfehfgiaadoor", sum := "30c9ceb9be5d6bcdc4a48952ba4b7c39ea3e641ea77c027680ebc6bac1bdcc72", func := "loop.example/g00931/laws.FnExactEffectOf", spec := "fnExactEffectOf", unfollowed := true, recurses := true, named := ["loop.example/g00931/impl.joinedDirections", "loop.example/g00931/impl.directions"], apart := false, laid := [("loop.example/g00931/impl.directions", laid_loop_example_g00931_impl_directions), ("loop.example/g00931/impl.joinedDirections", laid_loop_example_g00931_impl_joinedDirections)] }
def FnExactEffectOfSaid : Prop := fnExactEffectOfRow.holds Tryd.pinned (OpenSpec.ofChange fnExactEffectOfSpec)

/-- ITS FALSE NEIGHBOUR: 'it returns false'. Refute it at one input. -/
def fnExactEffectOfWrong : ChangeSpec := { name := "fnExactEffectOf", vars := ["loop.example/g00931/impl.joinedDirections", "loop.example/g00931/impl.directions"], fn := fun _ => fun
  | [d1, d2, d3, g1, g2] => { results := [.lit (.bool false)], args := [d1, d2, d3], vars := [g1, g2] }
  | _ => none }
def FnExactEffectOfWrongFalsely : Prop := fnExactEffectOfRow.holds Tryd.pinned (OpenSpec.ofChange fnExactEffectOfWrong)

/-- 'laws.FnExactEffectsAt': WHATEVER THE INPUT: true; the input reads as it did. -/
def fnExactEffectsAtSpec : ChangeSpec := { name := "fnExactEffectsAt", vars := ["loop.example/g00931/impl.joinedDirections", "loop.example/g00931/impl.directions"], fn := fun _ => fun
  | [d1, d2, g1, g2] => { results := [.lit (.bool true)], args := [d1, d2], vars := [g1, g2] }
  | _ => none }
def fnExactEffectsAtRow : OpenClaim := { program := "ytjgclemfehfgiaadoor", sum := "30c9ceb9be5d6bcdc4a48952ba4b7c39ea3e641ea77c027680ebc6bac1bdcc72", func := "loop.example/g00931/laws.FnExactEffectsAt", spec := "fnExactEffectsAt", unfollowed := true, recurses := true, named := ["loop.example/g00931/impl.joinedDirections", "loop.example/g00931/impl.directions"], apart := false, laid := [("loop.example/g00931/impl.directions", laid_loop_example_g00931_impl_directions), ("loop.example/g00931/impl.joinedDirections", laid_loop_example_g00931_impl_joinedDirections)] }
def FnExactEffectsAtSaid : Prop := fnExactEffectsAtRow.holds Tryd.pinned (OpenSpec.ofChange fnExactEffectsAtSpec)

/-- ITS FALSE NEIGHBOUR: 'it returns false'. Refute it at one input. -/
def fnExactEffectsAtWrong : ChangeSpec := { name := "fnExactEffectsAt", vars := ["loop.example/g00931/impl.joinedDirections", "loop.example/g00931/impl.directions"], fn := fun _ => fun
  | [d1, d2, g1, g2] => { results := [.lit (.bool false)], args := [d1, d2], vars := [g1, g2] }
  | _ => none }
def FnExactEffectsAtWrongFalsely : Prop := fnExactEffectsAtRow.holds Tryd.pinned (OpenSpec.ofChange fnExactEffectsAtWrong)

/-- 'laws.FnExactJoiningPoints': WHATEVER THE INPUT: true; the input reads as it did. -/
def fnExactJoiningPointsSpec : ChangeSpec := { name := "fnExactJoiningPoints", vars := ["loop.example/g00931/impl.joinedDirections", "loop.example/g00931/impl.directions"], fn := fun _ => fun
  | [d, g1, g2] => { results := [.lit (.bool true)], args := [d], vars := [g1, g2] }
  | _ => none }
def fnExactJoiningPointsRow : OpenClaim := { program := "ytjgclemfehfgiaadoor", sum := "30c9ceb9be5d6bcdc4a48952ba4b7c39ea3e641ea77c027680ebc6bac1bdcc72", func := "loop.example/g00931/laws.FnExactJoiningPoints", spec := "fnExactJoiningPoints", unfollowed := true, recurses := true, named := ["loop.example/g00931/impl.joinedDirections", "loop.example/g00931/impl.directions"], apart := false, laid := [("loop.example/g00931/impl.directions", laid_loop_example_g00931_impl_directions), ("loop.example/g00931/impl.joinedDirections", laid_loop_example_g00931_impl_joinedDirections)] }
def FnExactJoiningPointsSaid : Prop := fnExactJoiningPointsRow.holds Tryd.pinned (OpenSpec.ofChange fnExactJoiningPointsSpec)

/-- ITS FALSE NEIGHBOUR: 'it returns false'. Refute it at one input. -/
def fnExactJoiningPointsWrong : ChangeSpec := { name := "fnExactJoiningPoints", vars := ["loop.example/g00931/impl.joinedDirections", "loop.example/g00931/impl.directions"], fn := fun _ => fun
  | [d, g1, g2] => { results := [.lit (.bool false)], args := [d], vars := [g1, g2] }
  | _ => none }
def FnExactJoiningPointsWrongFalsely : Prop := fnExactJoiningPointsRow.holds Tryd.pinned (OpenSpec.ofChange fnExactJoiningPointsWrong)

/-- 'laws.FnExactDividingPoints': WHATEVER THE INPUT: true; the input reads as it did. -/
def fnExactDividingPointsSpec : ChangeSpec := { name := "fnExactDividingPoints", vars := ["loop.example/g00931/impl.joinedDirections", "loop.example/g00931/impl.directions"], fn := fun _ => fun
  | [d, g1, g2] => { results := [.lit (.bool true)], args := [d], vars := [g1, g2] }
  | _ => none }
def fnExactDividingPointsRow : OpenClaim := { program := "ytjgclemfehfgiaadoor", sum := "30c9ceb9be5d6bcdc4a48952ba4b7c39ea3e641ea77c027680ebc6bac1bdcc72", func := "loop.example/g00931/laws.FnExactDividingPoints", spec := "fnExactDividingPoints", unfollowed := true, recurses := true, named := ["loop.example/g00931/impl.joinedDirections", "loop.example/g00931/impl.directions"], apart := false, laid := [("loop.example/g00931/impl.directions", laid_loop_example_g00931_impl_directions), ("loop.example/g00931/impl.joinedDirections", laid_loop_example_g00931_impl_joinedDirections)] }
def FnExactDividingPointsSaid : Prop := fnExactDividingPointsRow.holds Tryd.pinned (OpenSpec.ofChange fnExactDividingPointsSpec)

/-- ITS FALSE NEIGHBOUR: 'it returns false'. Refute it at one input. -/
def fnExactDividingPointsWrong : ChangeSpec := { name := "fnExactDividingPoints", vars := ["loop.example/g00931/impl.joinedDirections", "loop.example/g00931/impl.directions"], fn := fun _ => fun
  | [d, g1, g2] => { results := [.lit (.bool false)], args := [d], vars := [g1, g2] }
  | _ => none }
def FnExactDividingPointsWrongFalsely : Prop := fnExactDividingPointsRow.holds Tryd.pinned (OpenSpec.ofChange fnExactDividingPointsWrong)

/-- 'laws.FnExactPairsOf': WHATEVER THE INPUT: true; the input reads as it did. -/
def fnExactPairsOfSpec : ChangeSpec := { name := "fnExactPairsOf", vars := ["loop.example/g00931/impl.joinedDirections", "loop.example/g00931/impl.directions"], fn := fun _ => fun
  | [d, g1, g2] => { results := [.lit (.bool true)], args := [d], vars := [g1, g2] }
  | _ => none }
def fnExactPairsOfRow : OpenClaim := { program := "ytjgclemfehfgiaadoor", sum := "30c9ceb9be5d6bcdc4a48952ba4b7c39ea3e641ea77c027680ebc6bac1bdcc72", func := "loop.example/g00931/laws.FnExactPairsOf", spec := "fnExactPairsOf", unfollowed := true, recurses := true, named := ["loop.example/g00931/impl.joinedDirections", "loop.example/g00931/impl.directions"], apart := false, laid := [("loop.example/g00931/impl.directions", laid_loop_example_g00931_impl_directions), ("loop.example/g00931/impl.joinedDirections", laid_loop_example_g00931_impl_joinedDirections)] }
def FnExactPairsOfSaid : Prop := fnExactPairsOfRow.holds Tryd.pinned (OpenSpec.ofChange fnExactPairsOfSpec)

/-- ITS FALSE NEIGHBOUR: 'it returns false'. Refute it at one input. -/
def fnExactPairsOfWrong : ChangeSpec := { name := "fnExactPairsOf", vars := ["loop.example/g00931/impl.joinedDirections", "loop.example/g00931/impl.directions"], fn := fun _ => fun
  | [d, g1, g2] => { results := [.lit (.bool false)], args := [d], vars := [g1, g2] }
  | _ => none }
def FnExactPairsOfWrongFalsely : Prop := fnExactPairsOfRow.holds Tryd.pinned (OpenSpec.ofChange fnExactPairsOfWrong)

/-- 'laws.FnExactJoinPanel': WHATEVER THE INPUT: true; the input reads as it did. -/
def fnExactJoinPanelSpec : ChangeSpec := { name := "fnExactJoinPanel", vars := ["loop.example/g00931/impl.joinedDirections", "loop.example/g00931/impl.directions"], fn := fun _ => fun
  | [d, g1, g2] => { results := [.lit (.bool true)], args := [d], vars := [g1, g2] }
  | _ => none }
def fnExactJoinPanelRow : OpenClaim := { program := "ytjgclemfehfgiaadoor", sum := "30c9ceb9be5d6bcdc4a48952ba4b7c39ea3e641ea77c027680ebc6bac1bdcc72", func := "loop.example/g00931/laws.FnExactJoinPanel", spec := "fnExactJoinPanel", unfollowed := true, recurses := true, named := ["loop.example/g00931/impl.joinedDirections", "loop.example/g00931/impl.directions"], apart := false, laid := [("loop.example/g00931/impl.directions", laid_loop_example_g00931_impl_directions), ("loop.example/g00931/impl.joinedDirections", laid_loop_example_g00931_impl_joinedDirections)] }
def FnExactJoinPanelSaid : Prop := fnExactJoinPanelRow.holds Tryd.pinned (OpenSpec.ofChange fnExactJoinPanelSpec)

/-- ITS FALSE NEIGHBOUR: 'it returns false'. Refute it at one input. -/
def fnExactJoinPanelWrong : ChangeSpec := { name := "fnExactJoinPanel", vars := ["loop.example/g00931/impl.joinedDirections", "loop.example/g00931/impl.directions"], fn := fun _ => fun
  | [d, g1, g2] => { results := [.lit (.bool false)], args := [d], vars := [g1, g2] }
  | _ => none }
def FnExactJoinPanelWrongFalsely : Prop := fnExactJoinPanelRow.holds Tryd.pinned (OpenSpec.ofChange fnExactJoinPanelWrong)

/-- 'laws.FnSharedPoints': WHATEVER THE INPUT: true; the input reads as it did. -/
def fnSharedPointsSpec : ChangeSpec := { name := "fnSharedPoints", vars := ["loop.example/g00931/impl.turns", "loop.example/g00931/impl.directions"], fn := fun _ => fun
  | [d, g1, g2] => { results := [.lit (.bool true)], args := [d], vars := [g1, g2] }
  | _ => none }
def fnSharedPointsRow : OpenClaim := { program := "ytjgclemfehfgiaadoor", sum := "30c9ceb9be5d6bcdc4a48952ba4b7c39ea3e641ea77c027680ebc6bac1bdcc72", func := "loop.example/g00931/laws.FnSharedPoints", spec := "fnSharedPoints", unfollowed := true, recurses := true, named := ["loop.example/g00931/impl.turns", "loop.example/g00931/impl.directions"], apart := false, laid := [("loop.example/g00931/impl.turns", laid_loop_example_g00931_impl_turns), ("loop.example/g00931/impl.directions", laid_loop_example_g00931_impl_directions)] }
def FnSharedPointsSaid : Prop := fnSharedPointsRow.holds Tryd.pinned (OpenSpec.ofChange fnSharedPointsSpec)

/-- ITS FALSE NEIGHBOUR: 'it returns false'. Refute it at one input. -/
def fnSharedPointsWrong : ChangeSpec := { name := "fnSharedPoints", vars := ["loop.example/g00931/impl.turns", "loop.example/g00931/impl.directions"], fn := fun _ => fun
  | [d, g1, g2] => { results := [.lit (.bool false)], args := [d], vars := [g1, g2] }
  | _ => none }
def FnSharedPointsWrongFalsely : Prop := fnSharedPointsRow.holds Tryd.pinned (OpenSpec.ofChange fnSharedPointsWrong)

/-- 'laws.FnExactEditsText': WHATEVER THE INPUT: true; the input reads as it did. -/
def fnExactEditsTextSpec : ChangeSpec := { name := "fnExactEditsText", fn := fun _ => fun
  | [d1, d2] => { results := [.lit (.bool true)], args := [d1, d2] }
  | _ => none }
def fnExactEditsTextRow : OpenClaim := { program := "ytjgclemfehfgiaadoor", sum := "30c9ceb9be5d6bcdc4a48952ba4b7c39ea3e641ea77c027680ebc6bac1bdcc72", func := "loop.example/g00931/laws.FnExactEditsText", spec := "fnExactEditsText", inPlace := ["internal/abi.NoEscape", "internal/bytealg.MakeNoZero"], named := ["internal/strconv.uint64pow10", "math/bits.deBruijn32tab", "math/bits.deBruijn64tab"], apart := false, laid := [("math/bits.deBruijn32tab", laid_math_bits_deBruijn32tab), ("math/bits.deBruijn64tab", laid_math_bits_deBruijn64tab), ("internal/strconv.uint64pow10", laid_internal_strconv_uint64pow10)] }
def FnExactEditsTextSaid : Prop := fnExactEditsTextRow.holds Tryd.pinned (OpenSpec.ofChange fnExactEditsTextSpec)

/-- ITS FALSE NEIGHBOUR: 'it returns false'. Refute it at one input. -/
def fnExactEditsTextWrong : ChangeSpec := { name := "fnExactEditsText", fn := fun _ => fun
  | [d1, d2] => { results := [.lit (.bool false)], args := [d1, d2] }
  | _ => none }
def FnExactEditsTextWrongFalsely : Prop := fnExactEditsTextRow.holds Tryd.pinned (OpenSpec.ofChange fnExactEditsTextWrong)

/- THE SECOND FORM. 'bulk': how many values and letters a reading holds, each counted each time it is reached (what is shared counts as often as it is met; a slice's spare places count too). A statement '..UptoSaid' is the law's where the arguments, and the package variables that the reading takes, are together of bulk at most 1048576: NARROWER than '..Said'. Prove '..Said' where nothing that the law and all that it calls make is longer than what came in: it says more and counts as full. Else prove '..UptoSaid'. A law counts once. -/
mutual
def uptoBulk {H : Type} : DataW H → Nat
  | .lit (.string bytes) => bytes.length + 1
  | .lit _ => 1
  | .nil => 1
  | .ptr d => uptoBulk d + 1
  | .slice elems spare => uptoBulkAll elems + uptoBulkAll spare + 1
  | .agg parts => uptoBulkAll parts + 1
  | .iface _ d => uptoBulk d + 1
  | .map entries => uptoBulkEntries entries + 1
  | .held _ => 1
def uptoBulkAll {H : Type} : List (DataW H) → Nat
  | [] => 0
  | d :: r => uptoBulk d + uptoBulkAll r
def uptoBulkEntries {H : Type} : List (Lit × DataW H) → Nat
  | [] => 0
  | x :: r => uptoBulkEntry x + uptoBulkEntries r
def uptoBulkEntry {H : Type} : Lit × DataW H → Nat
  | (.string bytes, d) => bytes.length + uptoBulk d + 1
  | (_, d) => uptoBulk d + 1
 end
def uptoSmall : (H : Type) → List (DataW H) → Bool := fun _ ds => decide (uptoBulkAll ds ≤ 1048576)
def OpenSpec.upto (s : _root_.Go.ChangeSpec) : _root_.Go.OpenSpec := { _root_.Go.OpenSpec.ofChange s with cond := some uptoSmall }

/-- 'laws.FnExactEffectOf', WHERE WHAT IT READS IS OF BULK AT MOST 1048576: true; the input reads as it did. -/
def fnExactEffectOfUptoRow : OpenClaim := { program := "ytjgclemfehfgiaadoor", sum := "30c9ceb9be5d6bcdc4a48952ba4b7c39ea3e641ea77c027680ebc6bac1bdcc72", func := "loop.example/g00931/laws.FnExactEffectOf", spec := "fnExactEffectOf", unfollowed := true, recurses := true, named := ["loop.example/g00931/impl.joinedDirections", "loop.example/g00931/impl.directions"], apart := false, laid := [("loop.example/g00931/impl.directions", laid_loop_example_g00931_impl_directions), ("loop.example/g00931/impl.joinedDirections", laid_loop_example_g00931_impl_joinedDirections)], narrowed := true }
def FnExactEffectOfUptoSaid : Prop := fnExactEffectOfUptoRow.holds Tryd.pinned (OpenSpec.upto fnExactEffectOfSpec)

/-- 'laws.FnExactEffectsAt', WHERE WHAT IT READS IS OF BULK AT MOST 1048576: true; the input reads as it did. -/
def fnExactEffectsAtUptoRow : OpenClaim := { program := "ytjgclemfehfgiaadoor", sum := "30c9ceb9be5d6bcdc4a48952ba4b7c39ea3e641ea77c027680ebc6bac1bdcc72", func := "loop.example/g00931/laws.FnExactEffectsAt", spec := "fnExactEffectsAt", unfollowed := true, recurses := true, named := ["loop.example/g00931/impl.joinedDirections", "loop.example/g00931/impl.directions"], apart := false, laid := [("loop.example/g00931/impl.directions", laid_loop_example_g00931_impl_directions), ("loop.example/g00931/impl.joinedDirections", laid_loop_example_g00931_impl_joinedDirections)], narrowed := true }
def FnExactEffectsAtUptoSaid : Prop := fnExactEffectsAtUptoRow.holds Tryd.pinned (OpenSpec.upto fnExactEffectsAtSpec)

/-- 'laws.FnExactJoiningPoints', WHERE WHAT IT READS IS OF BULK AT MOST 1048576: true; the input reads as it did. -/
def fnExactJoiningPointsUptoRow : OpenClaim := { program := "ytjgclemfehfgiaadoor", sum := "30c9ceb9be5d6bcdc4a48952ba4b7c39ea3e641ea77c027680ebc6bac1bdcc72", func := "loop.example/g00931/laws.FnExactJoiningPoints", spec := "fnExactJoiningPoints", unfollowed := true, recurses := true, named := ["loop.example/g00931/impl.joinedDirections", "loop.example/g00931/impl.directions"], apart := false, laid := [("loop.example/g00931/impl.directions", laid_loop_example_g00931_impl_directions), ("loop.example/g00931/impl.joinedDirections", laid_loop_example_g00931_impl_joinedDirections)], narrowed := true }
def FnExactJoiningPointsUptoSaid : Prop := fnExactJoiningPointsUptoRow.holds Tryd.pinned (OpenSpec.upto fnExactJoiningPointsSpec)

/-- 'laws.FnExactDividingPoints', WHERE WHAT IT READS IS OF BULK AT MOST 1048576: true; the input reads as it did. -/
def fnExactDividingPointsUptoRow : OpenClaim := { program := "ytjgclemfehfgiaadoor", sum := "30c9ceb9be5d6bcdc4a48952ba4b7c39ea3e641ea77c027680ebc6bac1bdcc72", func := "loop.example/g00931/laws.FnExactDividingPoints", spec := "fnExactDividingPoints", unfollowed := true, recurses := true, named := ["loop.example/g00931/impl.joinedDirections", "loop.example/g00931/impl.directions"], apart := false, laid := [("loop.example/g00931/impl.directions", laid_loop_example_g00931_impl_directions), ("loop.example/g00931/impl.joinedDirections", laid_loop_example_g00931_impl_joinedDirections)], narrowed := true }
def FnExactDividingPointsUptoSaid : Prop := fnExactDividingPointsUptoRow.holds Tryd.pinned (OpenSpec.upto fnExactDividingPointsSpec)

/-- 'laws.FnExactPairsOf', WHERE WHAT IT READS IS OF BULK AT MOST 1048576: true; the input reads as it did. -/
def fnExactPairsOfUptoRow : OpenClaim := { program := "ytjgclemfehfgiaadoor", sum := "30c9ceb9be5d6bcdc4a48952ba4b7c39ea3e641ea77c027680ebc6bac1bdcc72", func := "loop.example/g00931/laws.FnExactPairsOf", spec := "fnExactPairsOf", unfollowed := true, recurses := true, named := ["loop.example/g00931/impl.joinedDirections", "loop.example/g00931/impl.directions"], apart := false, laid := [("loop.example/g00931/impl.directions", laid_loop_example_g00931_impl_directions), ("loop.example/g00931/impl.joinedDirections", laid_loop_example_g00931_impl_joinedDirections)], narrowed := true }
def FnExactPairsOfUptoSaid : Prop := fnExactPairsOfUptoRow.holds Tryd.pinned (OpenSpec.upto fnExactPairsOfSpec)

/-- 'laws.FnExactJoinPanel', WHERE WHAT IT READS IS OF BULK AT MOST 1048576: true; the input reads as it did. -/
def fnExactJoinPanelUptoRow : OpenClaim := { program := "ytjgclemfehfgiaadoor", sum := "30c9ceb9be5d6bcdc4a48952ba4b7c39ea3e641ea77c027680ebc6bac1bdcc72", func := "loop.example/g00931/laws.FnExactJoinPanel", spec := "fnExactJoinPanel", unfollowed := true, recurses := true, named := ["loop.example/g00931/impl.joinedDirections", "loop.example/g00931/impl.directions"], apart := false, laid := [("loop.example/g00931/impl.directions", laid_loop_example_g00931_impl_directions), ("loop.example/g00931/impl.joinedDirections", laid_loop_example_g00931_impl_joinedDirections)], narrowed := true }
def FnExactJoinPanelUptoSaid : Prop := fnExactJoinPanelUptoRow.holds Tryd.pinned (OpenSpec.upto fnExactJoinPanelSpec)

/-- 'laws.FnSharedPoints', WHERE WHAT IT READS IS OF BULK AT MOST 1048576: true; the input reads as it did. -/
def fnSharedPointsUptoRow : OpenClaim := { program := "ytjgclemfehfgiaadoor", sum := "30c9ceb9be5d6bcdc4a48952ba4b7c39ea3e641ea77c027680ebc6bac1bdcc72", func := "loop.example/g00931/laws.FnSharedPoints", spec := "fnSharedPoints", unfollowed := true, recurses := true, named := ["loop.example/g00931/impl.turns", "loop.example/g00931/impl.directions"], apart := false, laid := [("loop.example/g00931/impl.turns", laid_loop_example_g00931_impl_turns), ("loop.example/g00931/impl.directions", laid_loop_example_g00931_impl_directions)], narrowed := true }
def FnSharedPointsUptoSaid : Prop := fnSharedPointsUptoRow.holds Tryd.pinned (OpenSpec.upto fnSharedPointsSpec)

/-- 'laws.FnExactEditsText', WHERE WHAT IT READS IS OF BULK AT MOST 1048576: true; the input reads as it did. -/
def fnExactEditsTextUptoRow : OpenClaim := { program := "ytjgclemfehfgiaadoor", sum := "30c9ceb9be5d6bcdc4a48952ba4b7c39ea3e641ea77c027680ebc6bac1bdcc72", func := "loop.example/g00931/laws.FnExactEditsText", spec := "fnExactEditsText", inPlace := ["internal/abi.NoEscape", "internal/bytealg.MakeNoZero"], named := ["internal/strconv.uint64pow10", "math/bits.deBruijn32tab", "math/bits.deBruijn64tab"], apart := false, laid := [("math/bits.deBruijn32tab", laid_math_bits_deBruijn32tab), ("math/bits.deBruijn64tab", laid_math_bits_deBruijn64tab), ("internal/strconv.uint64pow10", laid_internal_strconv_uint64pow10)], narrowed := true }
def FnExactEditsTextUptoSaid : Prop := fnExactEditsTextUptoRow.holds Tryd.pinned (OpenSpec.upto fnExactEditsTextSpec)

end Rows
end Go.Proofs.YtjgclemfehfgiaaDoor
