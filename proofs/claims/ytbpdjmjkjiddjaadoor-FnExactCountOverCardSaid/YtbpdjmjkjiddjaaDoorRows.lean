/-
  NARROWER THAN 'FOR EVERY INPUT', by the rows' own cells (each row's printed sentence says how): FnExactPassesText: laid · FnExactPassesOf: laid · FnExactCountOver: laid · FnSharedPoints: laid · FnCrossings: laid · FnExactFirstChange: laid.
  DERIVED. THE GIVEN ROWS OF THIS SEAT. 6 by the template 'for every input the law returns true; each argument reads behind the call as it read before'; 0 by the template 'total and deterministic' (their statements: YtbpdjmjkjiddjaaDoorTotals.lean).
  GIVEN WITH THE SEED: the statements are not yours to turn. If you find one false, say at which input.
  Laid BY PROGRAM, IN A SANDBOX (cutbox-rows.mjs): the forced cells as the released guide's own fill.sh prints them over the translation df84fb69b84d742f… (all of the seat's roots in one cut). By AI agents, Wed Nov 11 2026. No macro, syntax, notation, axiom, sorry.
-/
import Derived.Test.YtbpdjmjkjiddjaaDoorChecked
import GoSem.Claim
import GoSem.ClaimJoined
import GoSem.ClaimMapViews
import Derived.JoinedTies
import Derived.KernelRfl
namespace Go.Proofs.YtbpdjmjkjiddjaaDoor
/- THE CELL 'sum', in the pinned program and in every row, IS THE sha256 OF THE DUMP (.gsa) THAT YtbpdjmjkjiddjaaDoorProg.lean LOADS. Nothing in Lean hashes anything: it is a label: what it is worth is what the hold of that sum in a sandbox is worth. -/
noncomputable def Tryd.pinned : Pinned := { name := "ytbpdjmjkjiddjaadoor", sum := "df84fb69b84d742f4fea7bc7feb4a00886a57a77113eaec9f3762a657b6d69ef", checked := Tryd.checked }
namespace Rows
def none {H : Type} : Left H := { results := [], args := [] }

/- WHAT THE LISTED PACKAGE-LEVEL VARIABLES READ AS WHEN THE CALL BEGINS. Each datum BY PROGRAM (the guide's laid-datum.mjs) off the statement by which the dump's own 'gosem.cut.vars' lays the variable. In a bare row this is a premise. The card (YtbpdjmjkjiddjaaDoorCards.lean) ties it to the program's text. -/
def laid_math_bits_deBruijn32tab {H : Type} : DataW H := .agg [.lit (.int .u8 0), .lit (.int .u8 1), .lit (.int .u8 28), .lit (.int .u8 2), .lit (.int .u8 29), .lit (.int .u8 14), .lit (.int .u8 24), .lit (.int .u8 3), .lit (.int .u8 30), .lit (.int .u8 22), .lit (.int .u8 20), .lit (.int .u8 15), .lit (.int .u8 25), .lit (.int .u8 17), .lit (.int .u8 4), .lit (.int .u8 8), .lit (.int .u8 31), .lit (.int .u8 27), .lit (.int .u8 13), .lit (.int .u8 23), .lit (.int .u8 21), .lit (.int .u8 19), .lit (.int .u8 16), .lit (.int .u8 7), .lit (.int .u8 26), .lit (.int .u8 12), .lit (.int .u8 18), .lit (.int .u8 6), .lit (.int .u8 11), .lit (.int .u8 5), .lit (.int .u8 10), .lit (.int .u8 9)]
def laid_math_bits_deBruijn64tab {H : Type} : DataW H := .agg [.lit (.int .u8 0), .lit (.int .u8 1), .lit (.int .u8 56), .lit (.int .u8 2), .lit (.int .u8 57), .lit (.int .u8 49), .lit (.int .u8 28), .lit (.int .u8 3), .lit (.int .u8 61), .lit (.int .u8 58), .lit (.int .u8 42), .lit (.int .u8 50), .lit (.int .u8 38), .lit (.int .u8 29), .lit (.int .u8 17), .lit (.int .u8 4), .lit (.int .u8 62), .lit (.int .u8 47), .lit (.int .u8 59), .lit (.int .u8 36), .lit (.int .u8 45), .lit (.int .u8 43), .lit (.int .u8 51), .lit (.int .u8 22), .lit (.int .u8 53), .lit (.int .u8 39), .lit (.int .u8 33), .lit (.int .u8 30), .lit (.int .u8 24), .lit (.int .u8 18), .lit (.int .u8 12), .lit (.int .u8 5), .lit (.int .u8 63), .lit (.int .u8 55), .lit (.int .u8 48), .lit (.int .u8 27), .lit (.int .u8 60), .lit (.int .u8 41), .lit (.int .u8 37), .lit (.int .u8 16), .lit (.int .u8 46), .lit (.int .u8 35), .lit (.int .u8 44), .lit (.int .u8 21), .lit (.int .u8 52), .lit (.int .u8 32), .lit (.int .u8 23), .lit (.int .u8 11), .lit (.int .u8 54), .lit (.int .u8 26), .lit (.int .u8 40), .lit (.int .u8 15), .lit (.int .u8 34), .lit (.int .u8 20), .lit (.int .u8 31), .lit (.int .u8 10), .lit (.int .u8 25), .lit (.int .u8 14), .lit (.int .u8 19), .lit (.int .u8 9), .lit (.int .u8 13), .lit (.int .u8 8), .lit (.int .u8 7), .lit (.int .u8 6)]
def laid_internal_strconv_uint64pow10 {H : Type} : DataW H := .agg [.lit (.int .u64 1), .lit (.int .u64 10), .lit (.int .u64 100), .lit (.int .u64 1000), .lit (.int .u64 10000), .lit (.int .u64 100000), .lit (.int .u64 1000000), .lit (.int .u64 10000000), .lit (.int .u64 100000000), .lit (.int .u64 1000000000), .lit (.int .u64 10000000000), .lit (.int .u64 100000000000), .lit (.int .u64 1000000000000), .lit (.int .u64 10000000000000), .lit (.int .u64 100000000000000), .lit (.int .u64 1000000000000000), .lit (.int .u64 10000000000000000), .lit (.int .u64 100000000000000000), .lit (.int .u64 1000000000000000000), .lit (.int .u64 10000000000000000000)]
def laid_loop_example_g00931_impl_turns {H : Type} : DataW H := .agg [.agg [.lit (.int .i64 1), .lit (.int .i64 1)], .agg [.lit (.int .i64 (-1)), .lit (.int .i64 1)], .agg [.lit (.int .i64 1), .lit (.int .i64 (-1))]]
def laid_loop_example_g00931_impl_directions {H : Type} : DataW H := .agg [.agg [.lit (.int .i64 (-1)), .lit (.int .i64 (-1))], .agg [.lit (.int .i64 1), .lit (.int .i64 (-1))], .agg [.lit (.int .i64 (-1)), .lit (.int .i64 1)], .agg [.lit (.int .i64 1), .lit (.int .i64 1)]]
def laid_loop_example_g00931_impl_joinedDirections {H : Type} : DataW H := .agg [.agg [.agg [.lit (.int .i64 0), .lit (.int .i64 3)], .agg [.lit (.int .i64 1), .lit (.int .i64 2)]], .agg [.agg [.lit (.int .i64 0), .lit (.int .i64 2)], .agg [.lit (.int .i64 1), .lit (.int .i64 3)]], .agg [.agg [.lit (.int .i64 0), .lit (.int .i64 1)], .agg [.lit (.int .i64 2), .lit (.int .i64 3)]]]

/-- 'laws.FnExactPassesText': WHATEVER THE INPUT: true; the input reads as it did. -/
def fnExactPassesTextSpec : ChangeSpec := { name := "fnExactPassesText", fn := fun _ => fun
  | [d] => { results := [.lit (.bool true)], args := [d] }
  | _ => none }
def fnExactPassesTextRow : OpenClaim := { program := "ytbpdjmjkjiddjaadoor", sum := "df84fb69b84d742f4fea7bc7feb4a00886a57a77113eaec9f3762a657b6d69ef", func := "loop.example/g00931/laws.FnExactPassesText", spec := "fnExactPassesText", inPlace := ["internal/abi.NoEscape", "internal/bytealg.MakeNoZero"], named := ["internal/strconv.uint64pow10", "math/bits.deBruijn32tab", "math/bits.deBruijn64tab"], plainKeys := false, apart := false, laid := [("math/bits.deBruijn32tab", laid_math_bits_deBruijn32tab), ("math/bits.deBruijn64tab", laid_math_bits_deBruijn64tab), ("internal/strconv.uint64pow10", laid_internal_strconv_uint64pow10)] }
def FnExactPassesTextSaid : Prop := fnExactPassesTextRow.holds Tryd.pinned (OpenSpec.ofChange fnExactPassesTextSpec)

/-- ITS FALSE NEIGHBOUR: 'it returns false'. Refute it at one input. -/
def fnExactPassesTextWrong : ChangeSpec := { name := "fnExactPassesText", fn := fun _ => fun
  | [d] => { results := [.lit (.bool false)], args := [d] }
  | _ => none }
def FnExactPassesTextWrongFalsely : Prop := fnExactPassesTextRow.holds Tryd.pinned (OpenSpec.ofChange fnExactPassesTextWrong)

/-- 'laws.FnExactPassesOf': WHATEVER THE INPUT: true; the input reads as it did. -/
def fnExactPassesOfSpec : ChangeSpec := { name := "fnExactPassesOf", vars := ["loop.example/g00931/impl.turns"], fn := fun _ => fun
  | [d1, d2, g1] => { results := [.lit (.bool true)], args := [d1, d2], vars := [g1] }
  | _ => none }
def fnExactPassesOfRow : OpenClaim := { program := "ytbpdjmjkjiddjaadoor", sum := "df84fb69b84d742f4fea7bc7feb4a00886a57a77113eaec9f3762a657b6d69ef", func := "loop.example/g00931/laws.FnExactPassesOf", spec := "fnExactPassesOf", unfollowed := true, recurses := true, named := ["loop.example/g00931/impl.turns"], plainKeys := false, apart := false, laid := [("loop.example/g00931/impl.turns", laid_loop_example_g00931_impl_turns)] }
def FnExactPassesOfSaid : Prop := fnExactPassesOfRow.holds Tryd.pinned (OpenSpec.ofChange fnExactPassesOfSpec)

/-- ITS FALSE NEIGHBOUR: 'it returns false'. Refute it at one input. -/
def fnExactPassesOfWrong : ChangeSpec := { name := "fnExactPassesOf", vars := ["loop.example/g00931/impl.turns"], fn := fun _ => fun
  | [d1, d2, g1] => { results := [.lit (.bool false)], args := [d1, d2], vars := [g1] }
  | _ => none }
def FnExactPassesOfWrongFalsely : Prop := fnExactPassesOfRow.holds Tryd.pinned (OpenSpec.ofChange fnExactPassesOfWrong)

/-- 'laws.FnExactCountOver': WHATEVER THE INPUT: true; the input reads as it did. -/
def fnExactCountOverSpec : ChangeSpec := { name := "fnExactCountOver", vars := ["loop.example/g00931/impl.turns"], fn := fun _ => fun
  | [d1, d2, g1] => { results := [.lit (.bool true)], args := [d1, d2], vars := [g1] }
  | _ => none }
def fnExactCountOverRow : OpenClaim := { program := "ytbpdjmjkjiddjaadoor", sum := "df84fb69b84d742f4fea7bc7feb4a00886a57a77113eaec9f3762a657b6d69ef", func := "loop.example/g00931/laws.FnExactCountOver", spec := "fnExactCountOver", unfollowed := true, recurses := true, named := ["loop.example/g00931/impl.turns"], plainKeys := false, apart := false, laid := [("loop.example/g00931/impl.turns", laid_loop_example_g00931_impl_turns)] }
def FnExactCountOverSaid : Prop := fnExactCountOverRow.holds Tryd.pinned (OpenSpec.ofChange fnExactCountOverSpec)

/-- ITS FALSE NEIGHBOUR: 'it returns false'. Refute it at one input. -/
def fnExactCountOverWrong : ChangeSpec := { name := "fnExactCountOver", vars := ["loop.example/g00931/impl.turns"], fn := fun _ => fun
  | [d1, d2, g1] => { results := [.lit (.bool false)], args := [d1, d2], vars := [g1] }
  | _ => none }
def FnExactCountOverWrongFalsely : Prop := fnExactCountOverRow.holds Tryd.pinned (OpenSpec.ofChange fnExactCountOverWrong)

/-- 'laws.FnSharedPoints': WHATEVER THE INPUT: true; the input reads as it did. -/
def fnSharedPointsSpec : ChangeSpec := { name := "fnSharedPoints", vars := ["loop.example/g00931/impl.turns", "loop.example/g00931/impl.directions"], fn := fun _ => fun
  | [d, g1, g2] => { results := [.lit (.bool true)], args := [d], vars := [g1, g2] }
  | _ => none }
def fnSharedPointsRow : OpenClaim := { program := "ytbpdjmjkjiddjaadoor", sum := "df84fb69b84d742f4fea7bc7feb4a00886a57a77113eaec9f3762a657b6d69ef", func := "loop.example/g00931/laws.FnSharedPoints", spec := "fnSharedPoints", unfollowed := true, recurses := true, named := ["loop.example/g00931/impl.turns", "loop.example/g00931/impl.directions"], plainKeys := false, apart := false, laid := [("loop.example/g00931/impl.turns", laid_loop_example_g00931_impl_turns), ("loop.example/g00931/impl.directions", laid_loop_example_g00931_impl_directions)] }
def FnSharedPointsSaid : Prop := fnSharedPointsRow.holds Tryd.pinned (OpenSpec.ofChange fnSharedPointsSpec)

/-- ITS FALSE NEIGHBOUR: 'it returns false'. Refute it at one input. -/
def fnSharedPointsWrong : ChangeSpec := { name := "fnSharedPoints", vars := ["loop.example/g00931/impl.turns", "loop.example/g00931/impl.directions"], fn := fun _ => fun
  | [d, g1, g2] => { results := [.lit (.bool false)], args := [d], vars := [g1, g2] }
  | _ => none }
def FnSharedPointsWrongFalsely : Prop := fnSharedPointsRow.holds Tryd.pinned (OpenSpec.ofChange fnSharedPointsWrong)

/-- 'laws.FnCrossings': WHATEVER THE INPUT: true; the input reads as it did. -/
def fnCrossingsSpec : ChangeSpec := { name := "fnCrossings", vars := ["loop.example/g00931/impl.turns"], fn := fun _ => fun
  | [d, g1] => { results := [.lit (.bool true)], args := [d], vars := [g1] }
  | _ => none }
def fnCrossingsRow : OpenClaim := { program := "ytbpdjmjkjiddjaadoor", sum := "df84fb69b84d742f4fea7bc7feb4a00886a57a77113eaec9f3762a657b6d69ef", func := "loop.example/g00931/laws.FnCrossings", spec := "fnCrossings", unfollowed := true, recurses := true, named := ["loop.example/g00931/impl.turns"], plainKeys := false, apart := false, laid := [("loop.example/g00931/impl.turns", laid_loop_example_g00931_impl_turns)] }
def FnCrossingsSaid : Prop := fnCrossingsRow.holds Tryd.pinned (OpenSpec.ofChange fnCrossingsSpec)

/-- ITS FALSE NEIGHBOUR: 'it returns false'. Refute it at one input. -/
def fnCrossingsWrong : ChangeSpec := { name := "fnCrossings", vars := ["loop.example/g00931/impl.turns"], fn := fun _ => fun
  | [d, g1] => { results := [.lit (.bool false)], args := [d], vars := [g1] }
  | _ => none }
def FnCrossingsWrongFalsely : Prop := fnCrossingsRow.holds Tryd.pinned (OpenSpec.ofChange fnCrossingsWrong)

/-- 'laws.FnExactFirstChange': WHATEVER THE INPUT: true; the input reads as it did. -/
def fnExactFirstChangeSpec : ChangeSpec := { name := "fnExactFirstChange", vars := ["loop.example/g00931/impl.joinedDirections", "loop.example/g00931/impl.directions"], fn := fun _ => fun
  | [d1, d2, g1, g2] => { results := [.lit (.bool true)], args := [d1, d2], vars := [g1, g2] }
  | _ => none }
def fnExactFirstChangeRow : OpenClaim := { program := "ytbpdjmjkjiddjaadoor", sum := "df84fb69b84d742f4fea7bc7feb4a00886a57a77113eaec9f3762a657b6d69ef", func := "loop.example/g00931/laws.FnExactFirstChange", spec := "fnExactFirstChange", unfollowed := true, recurses := true, named := ["loop.example/g00931/impl.joinedDirections", "loop.example/g00931/impl.directions"], plainKeys := false, apart := false, laid := [("loop.example/g00931/impl.directions", laid_loop_example_g00931_impl_directions), ("loop.example/g00931/impl.joinedDirections", laid_loop_example_g00931_impl_joinedDirections)] }
def FnExactFirstChangeSaid : Prop := fnExactFirstChangeRow.holds Tryd.pinned (OpenSpec.ofChange fnExactFirstChangeSpec)

/-- ITS FALSE NEIGHBOUR: 'it returns false'. Refute it at one input. -/
def fnExactFirstChangeWrong : ChangeSpec := { name := "fnExactFirstChange", vars := ["loop.example/g00931/impl.joinedDirections", "loop.example/g00931/impl.directions"], fn := fun _ => fun
  | [d1, d2, g1, g2] => { results := [.lit (.bool false)], args := [d1, d2], vars := [g1, g2] }
  | _ => none }
def FnExactFirstChangeWrongFalsely : Prop := fnExactFirstChangeRow.holds Tryd.pinned (OpenSpec.ofChange fnExactFirstChangeWrong)

/- THE SECOND FORM. 'bulk': how many values and letters a reading holds, each counted each time it is reached (what is shared counts as often as it is met; a slice's spare places count too). A statement '..UptoSaid' is the law's where the arguments, and the package variables that the reading takes, are together of bulk at most 1048576: NARROWER than '..Said'. Prove '..Said' where nothing that the law and all that it calls make is longer than what came in: it says more and counts as full. Else prove '..UptoSaid'. A law counts once. -/
mutual
def uptoBulk {H : Type} : DataW H → Nat
  | .lit (.string bytes) => bytes.length + 1
  | .lit _ => 1
  | .nil => 1
  | .ptr d => uptoBulk d + 1
  | .slice elems spare => uptoBulkAll elems + uptoBulkAll spare + 1
  | .agg parts => uptoBulkAll parts + 1
  | .iface _ d => uptoBulk d + 1
  | .map entries => uptoBulkEntries entries + 1
  | .held _ => 1
def uptoBulkAll {H : Type} : List (DataW H) → Nat
  | [] => 0
  | d :: r => uptoBulk d + uptoBulkAll r
def uptoBulkEntries {H : Type} : List (Lit × DataW H) → Nat
  | [] => 0
  | x :: r => uptoBulkEntry x + uptoBulkEntries r
def uptoBulkEntry {H : Type} : Lit × DataW H → Nat
  | (.string bytes, d) => bytes.length + uptoBulk d + 1
  | (_, d) => uptoBulk d + 1
 end
def uptoSmall : (H : Type) → List (DataW H) → Bool := fun _ ds => decide (uptoBulkAll ds ≤ 1048576)
def OpenSpec.upto (s : _root_.Go.ChangeSpec) : _root_.Go.OpenSpec := { _root_.Go.OpenSpec.ofChange s with cond := some uptoSmall }

/-- 'laws.FnExactPassesText', WHERE WHAT IT READS IS OF BULK AT MOST 1048576: true; the input reads as it did. -/
def fnExactPassesTextUptoRow : OpenClaim := { program := "ytbpdjmjkjiddjaadoor", sum := "df84fb69b84d742f4fea7bc7feb4a00886a57a77113eaec9f3762a657b6d69ef", func := "loop.example/g00931/laws.FnExactPassesText", spec := "fnExactPassesText", inPlace := ["internal/abi.NoEscape", "internal/bytealg.MakeNoZero"], named := ["internal/strconv.uint64pow10", "math/bits.deBruijn32tab", "math/bits.deBruijn64tab"], plainKeys := false, apart := false, laid := [("math/bits.deBruijn32tab", laid_math_bits_deBruijn32tab), ("math/bits.deBruijn64tab", laid_math_bits_deBruijn64tab), ("internal/strconv.uint64pow10", laid_internal_strconv_uint64pow10)], narrowed := true }
def FnExactPassesTextUptoSaid : Prop := fnExactPassesTextUptoRow.holds Tryd.pinned (OpenSpec.upto fnExactPassesTextSpec)

/-- 'laws.FnExactPassesOf', WHERE WHAT IT READS IS OF BULK AT MOST 1048576: true; the input reads as it did. -/
def fnExactPassesOfUptoRow : OpenClaim := { program := "ytbpdjmjkjiddjaadoor", sum := "df84fb69b84d742f4fea7bc7feb4a00886a57a77113eaec9f3762a657b6d69ef", func := "loop.example/g00931/laws.FnExactPassesOf", spec := "fnExactPassesOf", unfollowed := true, recurses := true, named := ["loop.example/g00931/impl.turns"], plainKeys := false, apart := false, laid := [("loop.example/g00931/impl.turns", laid_loop_example_g00931_impl_turns)], narrowed := true }
def FnExactPassesOfUptoSaid : Prop := fnExactPassesOfUptoRow.holds Tryd.pinned (OpenSpec.upto fnExactPassesOfSpec)

/-- 'laws.FnExactCountOver', WHERE WHAT IT READS IS OF BULK AT MOST 1048576: true; the input reads as it did. -/
def fnExactCountOverUptoRow : OpenClaim := { program := "ytbpdjmjkjiddjaadoor", sum := "df84fb69b84d742f4fea7bc7feb4a00886a57a77113eaec9f3762a657b6d69ef", func := "loop.example/g00931/laws.FnExactCountOver", spec := "fnExactCountOver", unfollowed := true, recurses := true, named := ["loop.example/g00931/impl.turns"], plainKeys := false, apart := false, laid := [("loop.example/g00931/impl.turns", laid_loop_example_g00931_impl_turns)], narrowed := true }
def FnExactCountOverUptoSaid : Prop := fnExactCountOverUptoRow.holds Tryd.pinned (OpenSpec.upto fnExactCountOverSpec)

/-- 'laws.FnSharedPoints', WHERE WHAT IT READS IS OF BULK AT MOST 1048576: true; the input reads as it did. -/
def fnSharedPointsUptoRow : OpenClaim := { program := "ytbpdjmjkjiddjaadoor", sum := "df84fb69b84d742f4fea7bc7feb4a00886a57a77113eaec9f3762a657b6d69ef", func := "loop.example/g00931/laws.FnSharedPoints", spec := "fnSharedPoints", unfollowed := true, recurses := true, named := ["loop.example/g00931/impl.turns", "loop.example/g00931/impl.directions"], plainKeys := false, apart := false, laid := [("loop.example/g00931/impl.turns", laid_loop_example_g00931_impl_turns), ("loop.example/g00931/impl.directions", laid_loop_example_g00931_impl_directions)], narrowed := true }
def FnSharedPointsUptoSaid : Prop := fnSharedPointsUptoRow.holds Tryd.pinned (OpenSpec.upto fnSharedPointsSpec)

/-- 'laws.FnCrossings', WHERE WHAT IT READS IS OF BULK AT MOST 1048576: true; the input reads as it did. -/
def fnCrossingsUptoRow : OpenClaim := { program := "ytbpdjmjkjiddjaadoor", sum := "df84fb69b84d742f4fea7bc7feb4a00886a57a77113eaec9f3762a657b6d69ef", func := "loop.example/g00931/laws.FnCrossings", spec := "fnCrossings", unfollowed := true, recurses := true, named := ["loop.example/g00931/impl.turns"], plainKeys := false, apart := false, laid := [("loop.example/g00931/impl.turns", laid_loop_example_g00931_impl_turns)], narrowed := true }
def FnCrossingsUptoSaid : Prop := fnCrossingsUptoRow.holds Tryd.pinned (OpenSpec.upto fnCrossingsSpec)

/-- 'laws.FnExactFirstChange', WHERE WHAT IT READS IS OF BULK AT MOST 1048576: true; the input reads as it did. -/
def fnExactFirstChangeUptoRow : OpenClaim := { program := "ytbpdjmjkjiddjaadoor", sum := "df84fb69b84d742f4fea7bc7feb4a00886a57a77113eaec9f3762a657b6d69ef", func := "loop.example/g00931/laws.FnExactFirstChange", spec := "fnExactFirstChange", unfollowed := true, recurses := true, named := ["loop.example/g00931/impl.joinedDirections", "loop.example/g00931/impl.directions"], plainKeys := false, apart := false, laid := [("loop.example/g00931/impl.directions", laid_loop_example_g00931_impl_directions), ("loop.example/g00931/impl.joinedDirections", laid_loop_example_g00931_impl_joinedDirections)], narrowed := true }
def FnExactFirstChangeUptoSaid : Prop := fnExactFirstChangeUptoRow.holds Tryd.pinned (OpenSpec.upto fnExactFirstChangeSpec)

end Rows
end Go.Proofs.YtbpdjmjkjiddjaaDoor
