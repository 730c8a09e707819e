/-
  No cell of these rows narrows 'for every input' (looked for: loops, veiled, ifaces, maps, wideKeys, modest, calm, conditions, laid).
  DERIVED. THE GIVEN ROWS OF THIS SEAT. 9 by the template 'for every input the law returns true; each argument reads behind the call as it read before'; 0 by the template 'total and deterministic' (their statements: YtneknajeecgnoaaTotals.lean).
  GIVEN WITH THE SEED: the statements are not yours to turn. If you find one false, say at which input.
  Laid BY PROGRAM, IN A SANDBOX (cutbox-rows.mjs): the forced cells as the released guide's own fill.sh prints them over the translation cb7e853b04a2b8ed… (all of the seat's roots in one cut). By AI agents, Wed Nov 11 2026. No macro, syntax, notation, axiom, sorry.
-/
import Derived.Test.YtneknajeecgnoaaChecked
import GoSem.Claim
import GoSem.ClaimJoined
import GoSem.ClaimMapViews
import Derived.JoinedTies
import Derived.KernelRfl
namespace Go.Proofs.Ytneknajeecgnoaa
/- THE CELL 'sum', in the pinned program and in every row, IS THE sha256 OF THE DUMP (.gsa) THAT YtneknajeecgnoaaProg.lean LOADS. Nothing in Lean hashes anything: it is a label: what it is worth is what the hold of that sum in a sandbox is worth. -/
noncomputable def Try.pinned : Pinned := { name := "ytneknajeecgnoaa", sum := "cb7e853b04a2b8ede7e7ed8e9221fc3cb1de7d3ddc0b805fcf19b5fc2ac9e7bc", checked := Try.checked }
namespace Rows
def none {H : Type} : Left H := { results := [], args := [] }

/-- 'laws.FnJoins': WHATEVER THE INPUT: true; the input reads as it did. -/
def fnJoinsSpec : ChangeSpec := { name := "fnJoins", fn := fun _ => fun
  | [d1, d2] => { results := [.lit (.bool true)], args := [d1, d2] }
  | _ => none }
def fnJoinsRow : OpenClaim := { program := "ytneknajeecgnoaa", sum := "cb7e853b04a2b8ede7e7ed8e9221fc3cb1de7d3ddc0b805fcf19b5fc2ac9e7bc", func := "loop.example/g00931/laws.FnJoins", spec := "fnJoins", unfollowed := true, recurses := true, apart := false }
def FnJoinsSaid : Prop := fnJoinsRow.holds Try.pinned (OpenSpec.ofChange fnJoinsSpec)

/-- ITS FALSE NEIGHBOUR: 'it returns false'. Refute it at one input. -/
def fnJoinsWrong : ChangeSpec := { name := "fnJoins", fn := fun _ => fun
  | [d1, d2] => { results := [.lit (.bool false)], args := [d1, d2] }
  | _ => none }
def FnJoinsWrongFalsely : Prop := fnJoinsRow.holds Try.pinned (OpenSpec.ofChange fnJoinsWrong)

/-- 'laws.FnExactUndoJoin': WHATEVER THE INPUT: true; the input reads as it did. -/
def fnExactUndoJoinSpec : ChangeSpec := { name := "fnExactUndoJoin", fn := fun _ => fun
  | [d] => { results := [.lit (.bool true)], args := [d] }
  | _ => none }
def fnExactUndoJoinRow : OpenClaim := { program := "ytneknajeecgnoaa", sum := "cb7e853b04a2b8ede7e7ed8e9221fc3cb1de7d3ddc0b805fcf19b5fc2ac9e7bc", func := "loop.example/g00931/laws.FnExactUndoJoin", spec := "fnExactUndoJoin", apart := false }
def FnExactUndoJoinSaid : Prop := fnExactUndoJoinRow.holds Try.pinned (OpenSpec.ofChange fnExactUndoJoinSpec)

/-- ITS FALSE NEIGHBOUR: 'it returns false'. Refute it at one input. -/
def fnExactUndoJoinWrong : ChangeSpec := { name := "fnExactUndoJoin", fn := fun _ => fun
  | [d] => { results := [.lit (.bool false)], args := [d] }
  | _ => none }
def FnExactUndoJoinWrongFalsely : Prop := fnExactUndoJoinRow.holds Try.pinned (OpenSpec.ofChange fnExactUndoJoinWrong)

/-- 'laws.FnExactCountGroups': WHATEVER THE INPUT: true; the input reads as it did. -/
def fnExactCountGroupsSpec : ChangeSpec := { name := "fnExactCountGroups", fn := fun _ => fun
  | [d] => { results := [.lit (.bool true)], args := [d] }
  | _ => none }
def fnExactCountGroupsRow : OpenClaim := { program := "ytneknajeecgnoaa", sum := "cb7e853b04a2b8ede7e7ed8e9221fc3cb1de7d3ddc0b805fcf19b5fc2ac9e7bc", func := "loop.example/g00931/laws.FnExactCountGroups", spec := "fnExactCountGroups", apart := false }
def FnExactCountGroupsSaid : Prop := fnExactCountGroupsRow.holds Try.pinned (OpenSpec.ofChange fnExactCountGroupsSpec)

/-- ITS FALSE NEIGHBOUR: 'it returns false'. Refute it at one input. -/
def fnExactCountGroupsWrong : ChangeSpec := { name := "fnExactCountGroups", fn := fun _ => fun
  | [d] => { results := [.lit (.bool false)], args := [d] }
  | _ => none }
def FnExactCountGroupsWrongFalsely : Prop := fnExactCountGroupsRow.holds Try.pinned (OpenSpec.ofChange fnExactCountGroupsWrong)

/-- 'laws.FnExactGroupsOf': WHATEVER THE INPUT: true; the input reads as it did. -/
def fnExactGroupsOfSpec : ChangeSpec := { name := "fnExactGroupsOf", fn := fun _ => fun
  | [d] => { results := [.lit (.bool true)], args := [d] }
  | _ => none }
def fnExactGroupsOfRow : OpenClaim := { program := "ytneknajeecgnoaa", sum := "cb7e853b04a2b8ede7e7ed8e9221fc3cb1de7d3ddc0b805fcf19b5fc2ac9e7bc", func := "loop.example/g00931/laws.FnExactGroupsOf", spec := "fnExactGroupsOf", apart := false }
def FnExactGroupsOfSaid : Prop := fnExactGroupsOfRow.holds Try.pinned (OpenSpec.ofChange fnExactGroupsOfSpec)

/-- ITS FALSE NEIGHBOUR: 'it returns false'. Refute it at one input. -/
def fnExactGroupsOfWrong : ChangeSpec := { name := "fnExactGroupsOf", fn := fun _ => fun
  | [d] => { results := [.lit (.bool false)], args := [d] }
  | _ => none }
def FnExactGroupsOfWrongFalsely : Prop := fnExactGroupsOfRow.holds Try.pinned (OpenSpec.ofChange fnExactGroupsOfWrong)

/-- 'laws.FnExactNextColumn': WHATEVER THE INPUT: true; the input reads as it did. -/
def fnExactNextColumnSpec : ChangeSpec := { name := "fnExactNextColumn", fn := fun _ => fun
  | [d1, d2, d3] => { results := [.lit (.bool true)], args := [d1, d2, d3] }
  | _ => none }
def fnExactNextColumnRow : OpenClaim := { program := "ytneknajeecgnoaa", sum := "cb7e853b04a2b8ede7e7ed8e9221fc3cb1de7d3ddc0b805fcf19b5fc2ac9e7bc", func := "loop.example/g00931/laws.FnExactNextColumn", spec := "fnExactNextColumn", unfollowed := true, recurses := true, apart := false }
def FnExactNextColumnSaid : Prop := fnExactNextColumnRow.holds Try.pinned (OpenSpec.ofChange fnExactNextColumnSpec)

/-- ITS FALSE NEIGHBOUR: 'it returns false'. Refute it at one input. -/
def fnExactNextColumnWrong : ChangeSpec := { name := "fnExactNextColumn", fn := fun _ => fun
  | [d1, d2, d3] => { results := [.lit (.bool false)], args := [d1, d2, d3] }
  | _ => none }
def FnExactNextColumnWrongFalsely : Prop := fnExactNextColumnRow.holds Try.pinned (OpenSpec.ofChange fnExactNextColumnWrong)

/-- 'laws.FnExactColumnsOf': WHATEVER THE INPUT: true; the input reads as it did. -/
def fnExactColumnsOfSpec : ChangeSpec := { name := "fnExactColumnsOf", fn := fun _ => fun
  | [d] => { results := [.lit (.bool true)], args := [d] }
  | _ => none }
def fnExactColumnsOfRow : OpenClaim := { program := "ytneknajeecgnoaa", sum := "cb7e853b04a2b8ede7e7ed8e9221fc3cb1de7d3ddc0b805fcf19b5fc2ac9e7bc", func := "loop.example/g00931/laws.FnExactColumnsOf", spec := "fnExactColumnsOf", unfollowed := true, recurses := true, apart := false }
def FnExactColumnsOfSaid : Prop := fnExactColumnsOfRow.holds Try.pinned (OpenSpec.ofChange fnExactColumnsOfSpec)

/-- ITS FALSE NEIGHBOUR: 'it returns false'. Refute it at one input. -/
def fnExactColumnsOfWrong : ChangeSpec := { name := "fnExactColumnsOf", fn := fun _ => fun
  | [d] => { results := [.lit (.bool false)], args := [d] }
  | _ => none }
def FnExactColumnsOfWrongFalsely : Prop := fnExactColumnsOfRow.holds Try.pinned (OpenSpec.ofChange fnExactColumnsOfWrong)

/-- 'laws.FnExactCountByColumns': WHATEVER THE INPUT: true; the input reads as it did. -/
def fnExactCountByColumnsSpec : ChangeSpec := { name := "fnExactCountByColumns", fn := fun _ => fun
  | [d] => { results := [.lit (.bool true)], args := [d] }
  | _ => none }
def fnExactCountByColumnsRow : OpenClaim := { program := "ytneknajeecgnoaa", sum := "cb7e853b04a2b8ede7e7ed8e9221fc3cb1de7d3ddc0b805fcf19b5fc2ac9e7bc", func := "loop.example/g00931/laws.FnExactCountByColumns", spec := "fnExactCountByColumns", unfollowed := true, recurses := true, apart := false }
def FnExactCountByColumnsSaid : Prop := fnExactCountByColumnsRow.holds Try.pinned (OpenSpec.ofChange fnExactCountByColumnsSpec)

/-- ITS FALSE NEIGHBOUR: 'it returns false'. Refute it at one input. -/
def fnExactCountByColumnsWrong : ChangeSpec := { name := "fnExactCountByColumns", fn := fun _ => fun
  | [d] => { results := [.lit (.bool false)], args := [d] }
  | _ => none }
def FnExactCountByColumnsWrongFalsely : Prop := fnExactCountByColumnsRow.holds Try.pinned (OpenSpec.ofChange fnExactCountByColumnsWrong)

/-- 'laws.FnExactFromRight': WHATEVER THE INPUT: true; the input reads as it did. -/
def fnExactFromRightSpec : ChangeSpec := { name := "fnExactFromRight", fn := fun _ => fun
  | [d1, d2] => { results := [.lit (.bool true)], args := [d1, d2] }
  | _ => none }
def fnExactFromRightRow : OpenClaim := { program := "ytneknajeecgnoaa", sum := "cb7e853b04a2b8ede7e7ed8e9221fc3cb1de7d3ddc0b805fcf19b5fc2ac9e7bc", func := "loop.example/g00931/laws.FnExactFromRight", spec := "fnExactFromRight", unfollowed := true, recurses := true, apart := false }
def FnExactFromRightSaid : Prop := fnExactFromRightRow.holds Try.pinned (OpenSpec.ofChange fnExactFromRightSpec)

/-- ITS FALSE NEIGHBOUR: 'it returns false'. Refute it at one input. -/
def fnExactFromRightWrong : ChangeSpec := { name := "fnExactFromRight", fn := fun _ => fun
  | [d1, d2] => { results := [.lit (.bool false)], args := [d1, d2] }
  | _ => none }
def FnExactFromRightWrongFalsely : Prop := fnExactFromRightRow.holds Try.pinned (OpenSpec.ofChange fnExactFromRightWrong)

/-- 'laws.FnExactDistanceOf': WHATEVER THE INPUT: true; the input reads as it did. -/
def fnExactDistanceOfSpec : ChangeSpec := { name := "fnExactDistanceOf", fn := fun _ => fun
  | [d1, d2] => { results := [.lit (.bool true)], args := [d1, d2] }
  | _ => none }
def fnExactDistanceOfRow : OpenClaim := { program := "ytneknajeecgnoaa", sum := "cb7e853b04a2b8ede7e7ed8e9221fc3cb1de7d3ddc0b805fcf19b5fc2ac9e7bc", func := "loop.example/g00931/laws.FnExactDistanceOf", spec := "fnExactDistanceOf", apart := false }
def FnExactDistanceOfSaid : Prop := fnExactDistanceOfRow.holds Try.pinned (OpenSpec.ofChange fnExactDistanceOfSpec)

/-- ITS FALSE NEIGHBOUR: 'it returns false'. Refute it at one input. -/
def fnExactDistanceOfWrong : ChangeSpec := { name := "fnExactDistanceOf", fn := fun _ => fun
  | [d1, d2] => { results := [.lit (.bool false)], args := [d1, d2] }
  | _ => none }
def FnExactDistanceOfWrongFalsely : Prop := fnExactDistanceOfRow.holds Try.pinned (OpenSpec.ofChange fnExactDistanceOfWrong)

/- THE SECOND FORM. 'bulk': how many values and letters a reading holds, each counted each time it is reached (what is shared counts as often as it is met; a slice's spare places count too). A statement '..UptoSaid' is the law's where the arguments, and the package variables that the reading takes, are together of bulk at most 1048576: NARROWER than '..Said'. Prove '..Said' where nothing that the law and all that it calls make is longer than what came in: it says more and counts as full. Else prove '..UptoSaid'. A law counts once. -/
mutual
def uptoBulk {H : Type} : DataW H → Nat
  | .lit (.string bytes) => bytes.length + 1
  | .lit _ => 1
  | .nil => 1
  | .ptr d => uptoBulk d + 1
  | .slice elems spare => uptoBulkAll elems + uptoBulkAll spare + 1
  | .agg parts => uptoBulkAll parts + 1
  | .iface _ d => uptoBulk d + 1
  | .map entries => uptoBulkEntries entries + 1
  | .held _ => 1
def uptoBulkAll {H : Type} : List (DataW H) → Nat
  | [] => 0
  | d :: r => uptoBulk d + uptoBulkAll r
def uptoBulkEntries {H : Type} : List (Lit × DataW H) → Nat
  | [] => 0
  | x :: r => uptoBulkEntry x + uptoBulkEntries r
def uptoBulkEntry {H : Type} : Lit × DataW H → Nat
  | (.string bytes, d) => bytes.length + uptoBulk d + 1
  | (_, d) => uptoBulk d + 1
 end
def uptoSmall : (H : Type) → List (DataW H) → Bool := fun _ ds => decide (uptoBulkAll ds ≤ 1048576)
def OpenSpec.upto (s : _root_.Go.ChangeSpec) : _root_.Go.OpenSpec := { _root_.Go.OpenSpec.ofChange s with cond := some uptoSmall }

/-- 'laws.FnJoins', WHERE WHAT IT READS IS OF BULK AT MOST 1048576: true; the input reads as it did. -/
def fnJoinsUptoRow : OpenClaim := { program := "ytneknajeecgnoaa", sum := "cb7e853b04a2b8ede7e7ed8e9221fc3cb1de7d3ddc0b805fcf19b5fc2ac9e7bc", func := "loop.example/g00931/laws.FnJoins", spec := "fnJoins", unfollowed := true, recurses := true, apart := false, narrowed := true }
def FnJoinsUptoSaid : Prop := fnJoinsUptoRow.holds Try.pinned (OpenSpec.upto fnJoinsSpec)

/-- 'laws.FnExactUndoJoin', WHERE WHAT IT READS IS OF BULK AT MOST 1048576: true; the input reads as it did. -/
def fnExactUndoJoinUptoRow : OpenClaim := { program := "ytneknajeecgnoaa", sum := "cb7e853b04a2b8ede7e7ed8e9221fc3cb1de7d3ddc0b805fcf19b5fc2ac9e7bc", func := "loop.example/g00931/laws.FnExactUndoJoin", spec := "fnExactUndoJoin", apart := false, narrowed := true }
def FnExactUndoJoinUptoSaid : Prop := fnExactUndoJoinUptoRow.holds Try.pinned (OpenSpec.upto fnExactUndoJoinSpec)

/-- 'laws.FnExactCountGroups', WHERE WHAT IT READS IS OF BULK AT MOST 1048576: true; the input reads as it did. -/
def fnExactCountGroupsUptoRow : OpenClaim := { program := "ytneknajeecgnoaa", sum := "cb7e853b04a2b8ede7e7ed8e9221fc3cb1de7d3ddc0b805fcf19b5fc2ac9e7bc", func := "loop.example/g00931/laws.FnExactCountGroups", spec := "fnExactCountGroups", apart := false, narrowed := true }
def FnExactCountGroupsUptoSaid : Prop := fnExactCountGroupsUptoRow.holds Try.pinned (OpenSpec.upto fnExactCountGroupsSpec)

/-- 'laws.FnExactGroupsOf', WHERE WHAT IT READS IS OF BULK AT MOST 1048576: true; the input reads as it did. -/
def fnExactGroupsOfUptoRow : OpenClaim := { program := "ytneknajeecgnoaa", sum := "cb7e853b04a2b8ede7e7ed8e9221fc3cb1de7d3ddc0b805fcf19b5fc2ac9e7bc", func := "loop.example/g00931/laws.FnExactGroupsOf", spec := "fnExactGroupsOf", apart := false, narrowed := true }
def FnExactGroupsOfUptoSaid : Prop := fnExactGroupsOfUptoRow.holds Try.pinned (OpenSpec.upto fnExactGroupsOfSpec)

/-- 'laws.FnExactNextColumn', WHERE WHAT IT READS IS OF BULK AT MOST 1048576: true; the input reads as it did. -/
def fnExactNextColumnUptoRow : OpenClaim := { program := "ytneknajeecgnoaa", sum := "cb7e853b04a2b8ede7e7ed8e9221fc3cb1de7d3ddc0b805fcf19b5fc2ac9e7bc", func := "loop.example/g00931/laws.FnExactNextColumn", spec := "fnExactNextColumn", unfollowed := true, recurses := true, apart := false, narrowed := true }
def FnExactNextColumnUptoSaid : Prop := fnExactNextColumnUptoRow.holds Try.pinned (OpenSpec.upto fnExactNextColumnSpec)

/-- 'laws.FnExactColumnsOf', WHERE WHAT IT READS IS OF BULK AT MOST 1048576: true; the input reads as it did. -/
def fnExactColumnsOfUptoRow : OpenClaim := { program := "ytneknajeecgnoaa", sum := "cb7e853b04a2b8ede7e7ed8e9221fc3cb1de7d3ddc0b805fcf19b5fc2ac9e7bc", func := "loop.example/g00931/laws.FnExactColumnsOf", spec := "fnExactColumnsOf", unfollowed := true, recurses := true, apart := false, narrowed := true }
def FnExactColumnsOfUptoSaid : Prop := fnExactColumnsOfUptoRow.holds Try.pinned (OpenSpec.upto fnExactColumnsOfSpec)

/-- 'laws.FnExactCountByColumns', WHERE WHAT IT READS IS OF BULK AT MOST 1048576: true; the input reads as it did. -/
def fnExactCountByColumnsUptoRow : OpenClaim := { program := "ytneknajeecgnoaa", sum := "cb7e853b04a2b8ede7e7ed8e9221fc3cb1de7d3ddc0b805fcf19b5fc2ac9e7bc", func := "loop.example/g00931/laws.FnExactCountByColumns", spec := "fnExactCountByColumns", unfollowed := true, recurses := true, apart := false, narrowed := true }
def FnExactCountByColumnsUptoSaid : Prop := fnExactCountByColumnsUptoRow.holds Try.pinned (OpenSpec.upto fnExactCountByColumnsSpec)

/-- 'laws.FnExactFromRight', WHERE WHAT IT READS IS OF BULK AT MOST 1048576: true; the input reads as it did. -/
def fnExactFromRightUptoRow : OpenClaim := { program := "ytneknajeecgnoaa", sum := "cb7e853b04a2b8ede7e7ed8e9221fc3cb1de7d3ddc0b805fcf19b5fc2ac9e7bc", func := "loop.example/g00931/laws.FnExactFromRight", spec := "fnExactFromRight", unfollowed := true, recurses := true, apart := false, narrowed := true }
def FnExactFromRightUptoSaid : Prop := fnExactFromRightUptoRow.holds Try.pinned (OpenSpec.upto fnExactFromRightSpec)

/-- 'laws.FnExactDistanceOf', WHERE WHAT IT READS IS OF BULK AT MOST 1048576: true; the input reads as it did. -/
def fnExactDistanceOfUptoRow : OpenClaim := { program := "ytneknajeecgnoaa", sum := "cb7e853b04a2b8ede7e7ed8e9221fc3cb1de7d3ddc0b805fcf19b5fc2ac9e7bc", func := "loop.example/g00931/laws.FnExactDistanceOf", spec := "fnExactDistanceOf", apart := false, narrowed := true }
def FnExactDistanceOfUptoSaid : Prop := fnExactDistanceOfUptoRow.holds Try.pinned (OpenSpec.upto fnExactDistanceOfSpec)

end Rows
end Go.Proofs.Ytneknajeecgnoaa
