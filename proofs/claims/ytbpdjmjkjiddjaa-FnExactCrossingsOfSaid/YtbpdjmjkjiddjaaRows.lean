/-
  No cell of these rows narrows 'for every input' (looked for: loops, veiled, ifaces, maps, wideKeys, modest, calm, conditions, laid).
  DERIVED. THE GIVEN ROWS OF THIS SEAT. 7 by the template 'for every input the law returns true; each argument reads behind the call as it read before'; 0 by the template 'total and deterministic' (their statements: YtbpdjmjkjiddjaaTotals.lean).
  GIVEN WITH THE SEED: the statements are not yours to turn. If you find one false, say at which input.
  Laid BY PROGRAM, IN A SANDBOX (cutbox-rows.mjs): the forced cells as the released guide's own fill.sh prints them over the translation 8d319a8633877dd1… (all of the seat's roots in one cut). By AI agents, Wed Nov 11 2026. No macro, syntax, notation, axiom, sorry.
-/
import Derived.Test.YtbpdjmjkjiddjaaChecked
import GoSem.Claim
import GoSem.ClaimJoined
import GoSem.ClaimMapViews
import Derived.JoinedTies
import Derived.KernelRfl
namespace Go.Proofs.Ytbpdjmjkjiddjaa
/- THE CELL 'sum', in the pinned program and in every row, IS THE sha256 OF THE DUMP (.gsa) THAT YtbpdjmjkjiddjaaProg.lean LOADS. Nothing in Lean hashes anything: it is a label: what it is worth is what the hold of that sum in a sandbox is worth. -/
noncomputable def Try.pinned : Pinned := { name := "ytbpdjmjkjiddjaa", sum := "8d319a8633877dd133d80630cc058411984786f08563a19c923e27f3c8a5d0f6", checked := Try.checked }
namespace Rows
def none {H : Type} : Left H := { results := [], args := [] }

/-- 'laws.FnExactIsCrossing': WHATEVER THE INPUT: true; the input reads as it did. -/
def fnExactIsCrossingSpec : ChangeSpec := { name := "fnExactIsCrossing", fn := fun _ => fun
  | [d1, d2] => { results := [.lit (.bool true)], args := [d1, d2] }
  | _ => none }
def fnExactIsCrossingRow : OpenClaim := { program := "ytbpdjmjkjiddjaa", sum := "8d319a8633877dd133d80630cc058411984786f08563a19c923e27f3c8a5d0f6", func := "loop.example/g00931/laws.FnExactIsCrossing", spec := "fnExactIsCrossing", plainKeys := false, apart := false }
def FnExactIsCrossingSaid : Prop := fnExactIsCrossingRow.holds Try.pinned (OpenSpec.ofChange fnExactIsCrossingSpec)

/-- ITS FALSE NEIGHBOUR: 'it returns false'. Refute it at one input. -/
def fnExactIsCrossingWrong : ChangeSpec := { name := "fnExactIsCrossing", fn := fun _ => fun
  | [d1, d2] => { results := [.lit (.bool false)], args := [d1, d2] }
  | _ => none }
def FnExactIsCrossingWrongFalsely : Prop := fnExactIsCrossingRow.holds Try.pinned (OpenSpec.ofChange fnExactIsCrossingWrong)

/-- 'laws.FnExactCrossingsOf': WHATEVER THE INPUT: true; the input reads as it did. -/
def fnExactCrossingsOfSpec : ChangeSpec := { name := "fnExactCrossingsOf", fn := fun _ => fun
  | [d] => { results := [.lit (.bool true)], args := [d] }
  | _ => none }
def fnExactCrossingsOfRow : OpenClaim := { program := "ytbpdjmjkjiddjaa", sum := "8d319a8633877dd133d80630cc058411984786f08563a19c923e27f3c8a5d0f6", func := "loop.example/g00931/laws.FnExactCrossingsOf", spec := "fnExactCrossingsOf", unfollowed := true, recurses := true, plainKeys := false, apart := false }
def FnExactCrossingsOfSaid : Prop := fnExactCrossingsOfRow.holds Try.pinned (OpenSpec.ofChange fnExactCrossingsOfSpec)

/-- ITS FALSE NEIGHBOUR: 'it returns false'. Refute it at one input. -/
def fnExactCrossingsOfWrong : ChangeSpec := { name := "fnExactCrossingsOf", fn := fun _ => fun
  | [d] => { results := [.lit (.bool false)], args := [d] }
  | _ => none }
def FnExactCrossingsOfWrongFalsely : Prop := fnExactCrossingsOfRow.holds Try.pinned (OpenSpec.ofChange fnExactCrossingsOfWrong)

/-- 'laws.FnExactCrossingIndex': WHATEVER THE INPUT: true; the input reads as it did. -/
def fnExactCrossingIndexSpec : ChangeSpec := { name := "fnExactCrossingIndex", fn := fun _ => fun
  | [d1, d2] => { results := [.lit (.bool true)], args := [d1, d2] }
  | _ => none }
def fnExactCrossingIndexRow : OpenClaim := { program := "ytbpdjmjkjiddjaa", sum := "8d319a8633877dd133d80630cc058411984786f08563a19c923e27f3c8a5d0f6", func := "loop.example/g00931/laws.FnExactCrossingIndex", spec := "fnExactCrossingIndex", unfollowed := true, recurses := true, plainKeys := false, apart := false }
def FnExactCrossingIndexSaid : Prop := fnExactCrossingIndexRow.holds Try.pinned (OpenSpec.ofChange fnExactCrossingIndexSpec)

/-- ITS FALSE NEIGHBOUR: 'it returns false'. Refute it at one input. -/
def fnExactCrossingIndexWrong : ChangeSpec := { name := "fnExactCrossingIndex", fn := fun _ => fun
  | [d1, d2] => { results := [.lit (.bool false)], args := [d1, d2] }
  | _ => none }
def FnExactCrossingIndexWrongFalsely : Prop := fnExactCrossingIndexRow.holds Try.pinned (OpenSpec.ofChange fnExactCrossingIndexWrong)

/-- 'laws.FnExactOverSlope': WHATEVER THE INPUT: true; the input reads as it did. -/
def fnExactOverSlopeSpec : ChangeSpec := { name := "fnExactOverSlope", fn := fun _ => fun
  | [d1, d2] => { results := [.lit (.bool true)], args := [d1, d2] }
  | _ => none }
def fnExactOverSlopeRow : OpenClaim := { program := "ytbpdjmjkjiddjaa", sum := "8d319a8633877dd133d80630cc058411984786f08563a19c923e27f3c8a5d0f6", func := "loop.example/g00931/laws.FnExactOverSlope", spec := "fnExactOverSlope", plainKeys := false, apart := false }
def FnExactOverSlopeSaid : Prop := fnExactOverSlopeRow.holds Try.pinned (OpenSpec.ofChange fnExactOverSlopeSpec)

/-- ITS FALSE NEIGHBOUR: 'it returns false'. Refute it at one input. -/
def fnExactOverSlopeWrong : ChangeSpec := { name := "fnExactOverSlope", fn := fun _ => fun
  | [d1, d2] => { results := [.lit (.bool false)], args := [d1, d2] }
  | _ => none }
def FnExactOverSlopeWrongFalsely : Prop := fnExactOverSlopeRow.holds Try.pinned (OpenSpec.ofChange fnExactOverSlopeWrong)

/-- 'laws.FnExactPassesOver': WHATEVER THE INPUT: true; the input reads as it did. -/
def fnExactPassesOverSpec : ChangeSpec := { name := "fnExactPassesOver", fn := fun _ => fun
  | [d1, d2] => { results := [.lit (.bool true)], args := [d1, d2] }
  | _ => none }
def fnExactPassesOverRow : OpenClaim := { program := "ytbpdjmjkjiddjaa", sum := "8d319a8633877dd133d80630cc058411984786f08563a19c923e27f3c8a5d0f6", func := "loop.example/g00931/laws.FnExactPassesOver", spec := "fnExactPassesOver", plainKeys := false, apart := false }
def FnExactPassesOverSaid : Prop := fnExactPassesOverRow.holds Try.pinned (OpenSpec.ofChange fnExactPassesOverSpec)

/-- ITS FALSE NEIGHBOUR: 'it returns false'. Refute it at one input. -/
def fnExactPassesOverWrong : ChangeSpec := { name := "fnExactPassesOver", fn := fun _ => fun
  | [d1, d2] => { results := [.lit (.bool false)], args := [d1, d2] }
  | _ => none }
def FnExactPassesOverWrongFalsely : Prop := fnExactPassesOverRow.holds Try.pinned (OpenSpec.ofChange fnExactPassesOverWrong)

/-- 'laws.FnExactAlternatesOn': WHATEVER THE INPUT: true; the input reads as it did. -/
def fnExactAlternatesOnSpec : ChangeSpec := { name := "fnExactAlternatesOn", fn := fun _ => fun
  | [d] => { results := [.lit (.bool true)], args := [d] }
  | _ => none }
def fnExactAlternatesOnRow : OpenClaim := { program := "ytbpdjmjkjiddjaa", sum := "8d319a8633877dd133d80630cc058411984786f08563a19c923e27f3c8a5d0f6", func := "loop.example/g00931/laws.FnExactAlternatesOn", spec := "fnExactAlternatesOn", plainKeys := false, apart := false }
def FnExactAlternatesOnSaid : Prop := fnExactAlternatesOnRow.holds Try.pinned (OpenSpec.ofChange fnExactAlternatesOnSpec)

/-- ITS FALSE NEIGHBOUR: 'it returns false'. Refute it at one input. -/
def fnExactAlternatesOnWrong : ChangeSpec := { name := "fnExactAlternatesOn", fn := fun _ => fun
  | [d] => { results := [.lit (.bool false)], args := [d] }
  | _ => none }
def FnExactAlternatesOnWrongFalsely : Prop := fnExactAlternatesOnRow.holds Try.pinned (OpenSpec.ofChange fnExactAlternatesOnWrong)

/-- 'laws.FnPassing': WHATEVER THE INPUT: true; the input reads as it did. -/
def fnPassingSpec : ChangeSpec := { name := "fnPassing", fn := fun _ => fun
  | [d] => { results := [.lit (.bool true)], args := [d] }
  | _ => none }
def fnPassingRow : OpenClaim := { program := "ytbpdjmjkjiddjaa", sum := "8d319a8633877dd133d80630cc058411984786f08563a19c923e27f3c8a5d0f6", func := "loop.example/g00931/laws.FnPassing", spec := "fnPassing", plainKeys := false, apart := false }
def FnPassingSaid : Prop := fnPassingRow.holds Try.pinned (OpenSpec.ofChange fnPassingSpec)

/-- ITS FALSE NEIGHBOUR: 'it returns false'. Refute it at one input. -/
def fnPassingWrong : ChangeSpec := { name := "fnPassing", fn := fun _ => fun
  | [d] => { results := [.lit (.bool false)], args := [d] }
  | _ => none }
def FnPassingWrongFalsely : Prop := fnPassingRow.holds Try.pinned (OpenSpec.ofChange fnPassingWrong)

/- THE SECOND FORM. 'bulk': how many values and letters a reading holds, each counted each time it is reached (what is shared counts as often as it is met; a slice's spare places count too). A statement '..UptoSaid' is the law's where the arguments, and the package variables that the reading takes, are together of bulk at most 1048576: NARROWER than '..Said'. Prove '..Said' where nothing that the law and all that it calls make is longer than what came in: it says more and counts as full. Else prove '..UptoSaid'. A law counts once. -/
mutual
def uptoBulk {H : Type} : DataW H → Nat
  | .lit (.string bytes) => bytes.length + 1
  | .lit _ => 1
  | .nil => 1
  | .ptr d => uptoBulk d + 1
  | .slice elems spare => uptoBulkAll elems + uptoBulkAll spare + 1
  | .agg parts => uptoBulkAll parts + 1
  | .iface _ d => uptoBulk d + 1
  | .map entries => uptoBulkEntries entries + 1
  | .held _ => 1
def uptoBulkAll {H : Type} : List (DataW H) → Nat
  | [] => 0
  | d :: r => uptoBulk d + uptoBulkAll r
def uptoBulkEntries {H : Type} : List (Lit × DataW H) → Nat
  | [] => 0
  | x :: r => uptoBulkEntry x + uptoBulkEntries r
def uptoBulkEntry {H : Type} : Lit × DataW H → Nat
  | (.string bytes, d) => bytes.length + uptoBulk d + 1
  | (_, d) => uptoBulk d + 1
 end
def uptoSmall : (H : Type) → List (DataW H) → Bool := fun _ ds => decide (uptoBulkAll ds ≤ 1048576)
def OpenSpec.upto (s : _root_.Go.ChangeSpec) : _root_.Go.OpenSpec := { _root_.Go.OpenSpec.ofChange s with cond := some uptoSmall }

/-- 'laws.FnExactIsCrossing', WHERE WHAT IT READS IS OF BULK AT MOST 1048576: true; the input reads as it did. -/
def fnExactIsCrossingUptoRow : OpenClaim := { program := "ytbpdjmjkjiddjaa", sum := "8d319a8633877dd133d80630cc058411984786f08563a19c923e27f3c8a5d0f6", func := "loop.example/g00931/laws.FnExactIsCrossing", spec := "fnExactIsCrossing", plainKeys := false, apart := false, narrowed := true }
def FnExactIsCrossingUptoSaid : Prop := fnExactIsCrossingUptoRow.holds Try.pinned (OpenSpec.upto fnExactIsCrossingSpec)

/-- 'laws.FnExactCrossingsOf', WHERE WHAT IT READS IS OF BULK AT MOST 1048576: true; the input reads as it did. -/
def fnExactCrossingsOfUptoRow : OpenClaim := { program := "ytbpdjmjkjiddjaa", sum := "8d319a8633877dd133d80630cc058411984786f08563a19c923e27f3c8a5d0f6", func := "loop.example/g00931/laws.FnExactCrossingsOf", spec := "fnExactCrossingsOf", unfollowed := true, recurses := true, plainKeys := false, apart := false, narrowed := true }
def FnExactCrossingsOfUptoSaid : Prop := fnExactCrossingsOfUptoRow.holds Try.pinned (OpenSpec.upto fnExactCrossingsOfSpec)

/-- 'laws.FnExactCrossingIndex', WHERE WHAT IT READS IS OF BULK AT MOST 1048576: true; the input reads as it did. -/
def fnExactCrossingIndexUptoRow : OpenClaim := { program := "ytbpdjmjkjiddjaa", sum := "8d319a8633877dd133d80630cc058411984786f08563a19c923e27f3c8a5d0f6", func := "loop.example/g00931/laws.FnExactCrossingIndex", spec := "fnExactCrossingIndex", unfollowed := true, recurses := true, plainKeys := false, apart := false, narrowed := true }
def FnExactCrossingIndexUptoSaid : Prop := fnExactCrossingIndexUptoRow.holds Try.pinned (OpenSpec.upto fnExactCrossingIndexSpec)

/-- 'laws.FnExactOverSlope', WHERE WHAT IT READS IS OF BULK AT MOST 1048576: true; the input reads as it did. -/
def fnExactOverSlopeUptoRow : OpenClaim := { program := "ytbpdjmjkjiddjaa", sum := "8d319a8633877dd133d80630cc058411984786f08563a19c923e27f3c8a5d0f6", func := "loop.example/g00931/laws.FnExactOverSlope", spec := "fnExactOverSlope", plainKeys := false, apart := false, narrowed := true }
def FnExactOverSlopeUptoSaid : Prop := fnExactOverSlopeUptoRow.holds Try.pinned (OpenSpec.upto fnExactOverSlopeSpec)

/-- 'laws.FnExactPassesOver', WHERE WHAT IT READS IS OF BULK AT MOST 1048576: true; the input reads as it did. -/
def fnExactPassesOverUptoRow : OpenClaim := { program := "ytbpdjmjkjiddjaa", sum := "8d319a8633877dd133d80630cc058411984786f08563a19c923e27f3c8a5d0f6", func := "loop.example/g00931/laws.FnExactPassesOver", spec := "fnExactPassesOver", plainKeys := false, apart := false, narrowed := true }
def FnExactPassesOverUptoSaid : Prop := fnExactPassesOverUptoRow.holds Try.pinned (OpenSpec.upto fnExactPassesOverSpec)

/-- 'laws.FnExactAlternatesOn', WHERE WHAT IT READS IS OF BULK AT MOST 1048576: true; the input reads as it did. -/
def fnExactAlternatesOnUptoRow : OpenClaim := { program := "ytbpdjmjkjiddjaa", sum := "8d319a8633877dd133d80630cc058411984786f08563a19c923e27f3c8a5d0f6", func := "loop.example/g00931/laws.FnExactAlternatesOn", spec := "fnExactAlternatesOn", plainKeys := false, apart := false, narrowed := true }
def FnExactAlternatesOnUptoSaid : Prop := fnExactAlternatesOnUptoRow.holds Try.pinned (OpenSpec.upto fnExactAlternatesOnSpec)

/-- 'laws.FnPassing', WHERE WHAT IT READS IS OF BULK AT MOST 1048576: true; the input reads as it did. -/
def fnPassingUptoRow : OpenClaim := { program := "ytbpdjmjkjiddjaa", sum := "8d319a8633877dd133d80630cc058411984786f08563a19c923e27f3c8a5d0f6", func := "loop.example/g00931/laws.FnPassing", spec := "fnPassing", plainKeys := false, apart := false, narrowed := true }
def FnPassingUptoSaid : Prop := fnPassingUptoRow.holds Try.pinned (OpenSpec.upto fnPassingSpec)

end Rows
end Go.Proofs.Ytbpdjmjkjiddjaa
