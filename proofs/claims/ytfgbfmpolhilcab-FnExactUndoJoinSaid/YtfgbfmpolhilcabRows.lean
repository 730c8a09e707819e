/-
  No cell of these rows narrows 'for every input' (looked for: loops, veiled, ifaces, maps, wideKeys, modest, calm, conditions, laid).
  DERIVED. THE GIVEN ROWS OF THIS SEAT. 12 by the template 'for every input the law returns true; each argument reads behind the call as it read before'; 0 by the template 'total and deterministic' (their statements: YtfgbfmpolhilcabTotals.lean).
  GIVEN WITH THE SEED: the statements are not yours to turn. If you find one false, say at which input.
  Laid BY PROGRAM, IN A SANDBOX (cutbox-rows.mjs): the forced cells as the released guide's own fill.sh prints them over the translation b5c61ec1f0332426… (all of the seat's roots in one cut). By AI agents, Wed Nov 11 2026. No macro, syntax, notation, axiom, sorry.
-/
import Derived.Test.YtfgbfmpolhilcabChecked
import GoSem.Claim
import GoSem.ClaimJoined
import GoSem.ClaimMapViews
import Derived.JoinedTies
import Derived.KernelRfl
namespace Go.Proofs.Ytfgbfmpolhilcab
/- THE CELL 'sum', in the pinned program and in every row, IS THE sha256 OF THE DUMP (.gsa) THAT YtfgbfmpolhilcabProg.lean LOADS. Nothing in Lean hashes anything: it is a label: what it is worth is what the hold of that sum in a sandbox is worth. -/
noncomputable def Try.pinned : Pinned := { name := "ytfgbfmpolhilcab", sum := "b5c61ec1f0332426d00387c8b67ec911e0df0abdbb3b8aa95a234f7211984d6f", checked := Try.checked }
namespace Rows
def none {H : Type} : Left H := { results := [], args := [] }

/-- 'laws.FnExactValidJoined': WHATEVER THE INPUT: true; the input reads as it did. -/
def fnExactValidJoinedSpec : ChangeSpec := { name := "fnExactValidJoined", fn := fun _ => fun
  | [d] => { results := [.lit (.bool true)], args := [d] }
  | _ => none }
def fnExactValidJoinedRow : OpenClaim := { program := "ytfgbfmpolhilcab", sum := "b5c61ec1f0332426d00387c8b67ec911e0df0abdbb3b8aa95a234f7211984d6f", func := "loop.example/g00931/laws.FnExactValidJoined", spec := "fnExactValidJoined", apart := false }
def FnExactValidJoinedSaid : Prop := fnExactValidJoinedRow.holds Try.pinned (OpenSpec.ofChange fnExactValidJoinedSpec)

/-- ITS FALSE NEIGHBOUR: 'it returns false'. Refute it at one input. -/
def fnExactValidJoinedWrong : ChangeSpec := { name := "fnExactValidJoined", fn := fun _ => fun
  | [d] => { results := [.lit (.bool false)], args := [d] }
  | _ => none }
def FnExactValidJoinedWrongFalsely : Prop := fnExactValidJoinedRow.holds Try.pinned (OpenSpec.ofChange fnExactValidJoinedWrong)

/-- 'laws.FnExactUndoJoin': WHATEVER THE INPUT: true; the input reads as it did. -/
def fnExactUndoJoinSpec : ChangeSpec := { name := "fnExactUndoJoin", fn := fun _ => fun
  | [d] => { results := [.lit (.bool true)], args := [d] }
  | _ => none }
def fnExactUndoJoinRow : OpenClaim := { program := "ytfgbfmpolhilcab", sum := "b5c61ec1f0332426d00387c8b67ec911e0df0abdbb3b8aa95a234f7211984d6f", func := "loop.example/g00931/laws.FnExactUndoJoin", spec := "fnExactUndoJoin", apart := false }
def FnExactUndoJoinSaid : Prop := fnExactUndoJoinRow.holds Try.pinned (OpenSpec.ofChange fnExactUndoJoinSpec)

/-- ITS FALSE NEIGHBOUR: 'it returns false'. Refute it at one input. -/
def fnExactUndoJoinWrong : ChangeSpec := { name := "fnExactUndoJoin", fn := fun _ => fun
  | [d] => { results := [.lit (.bool false)], args := [d] }
  | _ => none }
def FnExactUndoJoinWrongFalsely : Prop := fnExactUndoJoinRow.holds Try.pinned (OpenSpec.ofChange fnExactUndoJoinWrong)

/-- 'laws.FnExactGroupOf': WHATEVER THE INPUT: true; the input reads as it did. -/
def fnExactGroupOfSpec : ChangeSpec := { name := "fnExactGroupOf", fn := fun _ => fun
  | [d1, d2] => { results := [.lit (.bool true)], args := [d1, d2] }
  | _ => none }
def fnExactGroupOfRow : OpenClaim := { program := "ytfgbfmpolhilcab", sum := "b5c61ec1f0332426d00387c8b67ec911e0df0abdbb3b8aa95a234f7211984d6f", func := "loop.example/g00931/laws.FnExactGroupOf", spec := "fnExactGroupOf", apart := false }
def FnExactGroupOfSaid : Prop := fnExactGroupOfRow.holds Try.pinned (OpenSpec.ofChange fnExactGroupOfSpec)

/-- ITS FALSE NEIGHBOUR: 'it returns false'. Refute it at one input. -/
def fnExactGroupOfWrong : ChangeSpec := { name := "fnExactGroupOf", fn := fun _ => fun
  | [d1, d2] => { results := [.lit (.bool false)], args := [d1, d2] }
  | _ => none }
def FnExactGroupOfWrongFalsely : Prop := fnExactGroupOfRow.holds Try.pinned (OpenSpec.ofChange fnExactGroupOfWrong)

/-- 'laws.FnExactJoinGroups': WHATEVER THE INPUT: true; the input reads as it did. -/
def fnExactJoinGroupsSpec : ChangeSpec := { name := "fnExactJoinGroups", fn := fun _ => fun
  | [d1, d2, d3] => { results := [.lit (.bool true)], args := [d1, d2, d3] }
  | _ => none }
def fnExactJoinGroupsRow : OpenClaim := { program := "ytfgbfmpolhilcab", sum := "b5c61ec1f0332426d00387c8b67ec911e0df0abdbb3b8aa95a234f7211984d6f", func := "loop.example/g00931/laws.FnExactJoinGroups", spec := "fnExactJoinGroups", unfollowed := true, recurses := true, apart := false }
def FnExactJoinGroupsSaid : Prop := fnExactJoinGroupsRow.holds Try.pinned (OpenSpec.ofChange fnExactJoinGroupsSpec)

/-- ITS FALSE NEIGHBOUR: 'it returns false'. Refute it at one input. -/
def fnExactJoinGroupsWrong : ChangeSpec := { name := "fnExactJoinGroups", fn := fun _ => fun
  | [d1, d2, d3] => { results := [.lit (.bool false)], args := [d1, d2, d3] }
  | _ => none }
def FnExactJoinGroupsWrongFalsely : Prop := fnExactJoinGroupsRow.holds Try.pinned (OpenSpec.ofChange fnExactJoinGroupsWrong)

/-- 'laws.FnExactGroupsOf': WHATEVER THE INPUT: true; the input reads as it did. -/
def fnExactGroupsOfSpec : ChangeSpec := { name := "fnExactGroupsOf", fn := fun _ => fun
  | [d] => { results := [.lit (.bool true)], args := [d] }
  | _ => none }
def fnExactGroupsOfRow : OpenClaim := { program := "ytfgbfmpolhilcab", sum := "b5c61ec1f0332426d00387c8b67ec911e0df0abdbb3b8aa95a234f7211984d6f", func := "loop.example/g00931/laws.FnExactGroupsOf", spec := "fnExactGroupsOf", apart := false }
def FnExactGroupsOfSaid : Prop := fnExactGroupsOfRow.holds Try.pinned (OpenSpec.ofChange fnExactGroupsOfSpec)

/-- ITS FALSE NEIGHBOUR: 'it returns false'. Refute it at one input. -/
def fnExactGroupsOfWrong : ChangeSpec := { name := "fnExactGroupsOf", fn := fun _ => fun
  | [d] => { results := [.lit (.bool false)], args := [d] }
  | _ => none }
def FnExactGroupsOfWrongFalsely : Prop := fnExactGroupsOfRow.holds Try.pinned (OpenSpec.ofChange fnExactGroupsOfWrong)

/-- 'laws.FnJoins': WHATEVER THE INPUT: true; the input reads as it did. -/
def fnJoinsSpec : ChangeSpec := { name := "fnJoins", fn := fun _ => fun
  | [d1, d2] => { results := [.lit (.bool true)], args := [d1, d2] }
  | _ => none }
def fnJoinsRow : OpenClaim := { program := "ytfgbfmpolhilcab", sum := "b5c61ec1f0332426d00387c8b67ec911e0df0abdbb3b8aa95a234f7211984d6f", func := "loop.example/g00931/laws.FnJoins", spec := "fnJoins", unfollowed := true, recurses := true, apart := false }
def FnJoinsSaid : Prop := fnJoinsRow.holds Try.pinned (OpenSpec.ofChange fnJoinsSpec)

/-- ITS FALSE NEIGHBOUR: 'it returns false'. Refute it at one input. -/
def fnJoinsWrong : ChangeSpec := { name := "fnJoins", fn := fun _ => fun
  | [d1, d2] => { results := [.lit (.bool false)], args := [d1, d2] }
  | _ => none }
def FnJoinsWrongFalsely : Prop := fnJoinsRow.holds Try.pinned (OpenSpec.ofChange fnJoinsWrong)

/-- 'laws.FnExactValidWalker': WHATEVER THE INPUT: true; the input reads as it did. -/
def fnExactValidWalkerSpec : ChangeSpec := { name := "fnExactValidWalker", fn := fun _ => fun
  | [d1, d2] => { results := [.lit (.bool true)], args := [d1, d2] }
  | _ => none }
def fnExactValidWalkerRow : OpenClaim := { program := "ytfgbfmpolhilcab", sum := "b5c61ec1f0332426d00387c8b67ec911e0df0abdbb3b8aa95a234f7211984d6f", func := "loop.example/g00931/laws.FnExactValidWalker", spec := "fnExactValidWalker", apart := false }
def FnExactValidWalkerSaid : Prop := fnExactValidWalkerRow.holds Try.pinned (OpenSpec.ofChange fnExactValidWalkerSpec)

/-- ITS FALSE NEIGHBOUR: 'it returns false'. Refute it at one input. -/
def fnExactValidWalkerWrong : ChangeSpec := { name := "fnExactValidWalker", fn := fun _ => fun
  | [d1, d2] => { results := [.lit (.bool false)], args := [d1, d2] }
  | _ => none }
def FnExactValidWalkerWrongFalsely : Prop := fnExactValidWalkerRow.holds Try.pinned (OpenSpec.ofChange fnExactValidWalkerWrong)

/-- 'laws.FnExactBackWalker': WHATEVER THE INPUT: true; the input reads as it did. -/
def fnExactBackWalkerSpec : ChangeSpec := { name := "fnExactBackWalker", fn := fun _ => fun
  | [d1, d2] => { results := [.lit (.bool true)], args := [d1, d2] }
  | _ => none }
def fnExactBackWalkerRow : OpenClaim := { program := "ytfgbfmpolhilcab", sum := "b5c61ec1f0332426d00387c8b67ec911e0df0abdbb3b8aa95a234f7211984d6f", func := "loop.example/g00931/laws.FnExactBackWalker", spec := "fnExactBackWalker", apart := false }
def FnExactBackWalkerSaid : Prop := fnExactBackWalkerRow.holds Try.pinned (OpenSpec.ofChange fnExactBackWalkerSpec)

/-- ITS FALSE NEIGHBOUR: 'it returns false'. Refute it at one input. -/
def fnExactBackWalkerWrong : ChangeSpec := { name := "fnExactBackWalker", fn := fun _ => fun
  | [d1, d2] => { results := [.lit (.bool false)], args := [d1, d2] }
  | _ => none }
def FnExactBackWalkerWrongFalsely : Prop := fnExactBackWalkerRow.holds Try.pinned (OpenSpec.ofChange fnExactBackWalkerWrong)

/-- 'laws.FnExactSegmentOf': WHATEVER THE INPUT: true; the input reads as it did. -/
def fnExactSegmentOfSpec : ChangeSpec := { name := "fnExactSegmentOf", fn := fun _ => fun
  | [d1, d2] => { results := [.lit (.bool true)], args := [d1, d2] }
  | _ => none }
def fnExactSegmentOfRow : OpenClaim := { program := "ytfgbfmpolhilcab", sum := "b5c61ec1f0332426d00387c8b67ec911e0df0abdbb3b8aa95a234f7211984d6f", func := "loop.example/g00931/laws.FnExactSegmentOf", spec := "fnExactSegmentOf", apart := false }
def FnExactSegmentOfSaid : Prop := fnExactSegmentOfRow.holds Try.pinned (OpenSpec.ofChange fnExactSegmentOfSpec)

/-- ITS FALSE NEIGHBOUR: 'it returns false'. Refute it at one input. -/
def fnExactSegmentOfWrong : ChangeSpec := { name := "fnExactSegmentOf", fn := fun _ => fun
  | [d1, d2] => { results := [.lit (.bool false)], args := [d1, d2] }
  | _ => none }
def FnExactSegmentOfWrongFalsely : Prop := fnExactSegmentOfRow.holds Try.pinned (OpenSpec.ofChange fnExactSegmentOfWrong)

/-- 'laws.FnExactTurnsOf': WHATEVER THE INPUT: true; the input reads as it did. -/
def fnExactTurnsOfSpec : ChangeSpec := { name := "fnExactTurnsOf", fn := fun _ => fun
  | [d1, d2] => { results := [.lit (.bool true)], args := [d1, d2] }
  | _ => none }
def fnExactTurnsOfRow : OpenClaim := { program := "ytfgbfmpolhilcab", sum := "b5c61ec1f0332426d00387c8b67ec911e0df0abdbb3b8aa95a234f7211984d6f", func := "loop.example/g00931/laws.FnExactTurnsOf", spec := "fnExactTurnsOf", apart := false }
def FnExactTurnsOfSaid : Prop := fnExactTurnsOfRow.holds Try.pinned (OpenSpec.ofChange fnExactTurnsOfSpec)

/-- ITS FALSE NEIGHBOUR: 'it returns false'. Refute it at one input. -/
def fnExactTurnsOfWrong : ChangeSpec := { name := "fnExactTurnsOf", fn := fun _ => fun
  | [d1, d2] => { results := [.lit (.bool false)], args := [d1, d2] }
  | _ => none }
def FnExactTurnsOfWrongFalsely : Prop := fnExactTurnsOfRow.holds Try.pinned (OpenSpec.ofChange fnExactTurnsOfWrong)

/-- 'laws.FnSegments': WHATEVER THE INPUT: true; the input reads as it did. -/
def fnSegmentsSpec : ChangeSpec := { name := "fnSegments", fn := fun _ => fun
  | [d] => { results := [.lit (.bool true)], args := [d] }
  | _ => none }
def fnSegmentsRow : OpenClaim := { program := "ytfgbfmpolhilcab", sum := "b5c61ec1f0332426d00387c8b67ec911e0df0abdbb3b8aa95a234f7211984d6f", func := "loop.example/g00931/laws.FnSegments", spec := "fnSegments", apart := false }
def FnSegmentsSaid : Prop := fnSegmentsRow.holds Try.pinned (OpenSpec.ofChange fnSegmentsSpec)

/-- ITS FALSE NEIGHBOUR: 'it returns false'. Refute it at one input. -/
def fnSegmentsWrong : ChangeSpec := { name := "fnSegments", fn := fun _ => fun
  | [d] => { results := [.lit (.bool false)], args := [d] }
  | _ => none }
def FnSegmentsWrongFalsely : Prop := fnSegmentsRow.holds Try.pinned (OpenSpec.ofChange fnSegmentsWrong)

/-- 'laws.FnPlainWalks': WHATEVER THE INPUT: true; the input reads as it did. -/
def fnPlainWalksSpec : ChangeSpec := { name := "fnPlainWalks", fn := fun _ => fun
  | [d1, d2] => { results := [.lit (.bool true)], args := [d1, d2] }
  | _ => none }
def fnPlainWalksRow : OpenClaim := { program := "ytfgbfmpolhilcab", sum := "b5c61ec1f0332426d00387c8b67ec911e0df0abdbb3b8aa95a234f7211984d6f", func := "loop.example/g00931/laws.FnPlainWalks", spec := "fnPlainWalks", unfollowed := true, recurses := true, apart := false }
def FnPlainWalksSaid : Prop := fnPlainWalksRow.holds Try.pinned (OpenSpec.ofChange fnPlainWalksSpec)

/-- ITS FALSE NEIGHBOUR: 'it returns false'. Refute it at one input. -/
def fnPlainWalksWrong : ChangeSpec := { name := "fnPlainWalks", fn := fun _ => fun
  | [d1, d2] => { results := [.lit (.bool false)], args := [d1, d2] }
  | _ => none }
def FnPlainWalksWrongFalsely : Prop := fnPlainWalksRow.holds Try.pinned (OpenSpec.ofChange fnPlainWalksWrong)

/- THE SECOND FORM. 'bulk': how many values and letters a reading holds, each counted each time it is reached (what is shared counts as often as it is met; a slice's spare places count too). A statement '..UptoSaid' is the law's where the arguments, and the package variables that the reading takes, are together of bulk at most 1048576: NARROWER than '..Said'. Prove '..Said' where nothing that the law and all that it calls make is longer than what came in: it says more and counts as full. Else prove '..UptoSaid'. A law counts once. -/
mutual
def uptoBulk {H : Type} : DataW H → Nat
  | .lit (.string bytes) => bytes.length + 1
  | .lit _ => 1
  | .nil => 1
  | .ptr d => uptoBulk d + 1
  | .slice elems spare => uptoBulkAll elems + uptoBulkAll spare + 1
  | .agg parts => uptoBulkAll parts + 1
  | .iface _ d => uptoBulk d + 1
  | .map entries => uptoBulkEntries entries + 1
  | .held _ => 1
def uptoBulkAll {H : Type} : List (DataW H) → Nat
  | [] => 0
  | d :: r => uptoBulk d + uptoBulkAll r
def uptoBulkEntries {H : Type} : List (Lit × DataW H) → Nat
  | [] => 0
  | x :: r => uptoBulkEntry x + uptoBulkEntries r
def uptoBulkEntry {H : Type} : Lit × DataW H → Nat
  | (.string bytes, d) => bytes.length + uptoBulk d + 1
  | (_, d) => uptoBulk d + 1
 end
def uptoSmall : (H : Type) → List (DataW H) → Bool := fun _ ds => decide (uptoBulkAll ds ≤ 1048576)
def OpenSpec.upto (s : _root_.Go.ChangeSpec) : _root_.Go.OpenSpec := { _root_.Go.OpenSpec.ofChange s with cond := some uptoSmall }

/-- 'laws.FnExactValidJoined', WHERE WHAT IT READS IS OF BULK AT MOST 1048576: true; the input reads as it did. -/
def fnExactValidJoinedUptoRow : OpenClaim := { program := "ytfgbfmpolhilcab", sum := "b5c61ec1f0332426d00387c8b67ec911e0df0abdbb3b8aa95a234f7211984d6f", func := "loop.example/g00931/laws.FnExactValidJoined", spec := "fnExactValidJoined", apart := false, narrowed := true }
def FnExactValidJoinedUptoSaid : Prop := fnExactValidJoinedUptoRow.holds Try.pinned (OpenSpec.upto fnExactValidJoinedSpec)

/-- 'laws.FnExactUndoJoin', WHERE WHAT IT READS IS OF BULK AT MOST 1048576: true; the input reads as it did. -/
def fnExactUndoJoinUptoRow : OpenClaim := { program := "ytfgbfmpolhilcab", sum := "b5c61ec1f0332426d00387c8b67ec911e0df0abdbb3b8aa95a234f7211984d6f", func := "loop.example/g00931/laws.FnExactUndoJoin", spec := "fnExactUndoJoin", apart := false, narrowed := true }
def FnExactUndoJoinUptoSaid : Prop := fnExactUndoJoinUptoRow.holds Try.pinned (OpenSpec.upto fnExactUndoJoinSpec)

/-- 'laws.FnExactGroupOf', WHERE WHAT IT READS IS OF BULK AT MOST 1048576: true; the input reads as it did. -/
def fnExactGroupOfUptoRow : OpenClaim := { program := "ytfgbfmpolhilcab", sum := "b5c61ec1f0332426d00387c8b67ec911e0df0abdbb3b8aa95a234f7211984d6f", func := "loop.example/g00931/laws.FnExactGroupOf", spec := "fnExactGroupOf", apart := false, narrowed := true }
def FnExactGroupOfUptoSaid : Prop := fnExactGroupOfUptoRow.holds Try.pinned (OpenSpec.upto fnExactGroupOfSpec)

/-- 'laws.FnExactJoinGroups', WHERE WHAT IT READS IS OF BULK AT MOST 1048576: true; the input reads as it did. -/
def fnExactJoinGroupsUptoRow : OpenClaim := { program := "ytfgbfmpolhilcab", sum := "b5c61ec1f0332426d00387c8b67ec911e0df0abdbb3b8aa95a234f7211984d6f", func := "loop.example/g00931/laws.FnExactJoinGroups", spec := "fnExactJoinGroups", unfollowed := true, recurses := true, apart := false, narrowed := true }
def FnExactJoinGroupsUptoSaid : Prop := fnExactJoinGroupsUptoRow.holds Try.pinned (OpenSpec.upto fnExactJoinGroupsSpec)

/-- 'laws.FnExactGroupsOf', WHERE WHAT IT READS IS OF BULK AT MOST 1048576: true; the input reads as it did. -/
def fnExactGroupsOfUptoRow : OpenClaim := { program := "ytfgbfmpolhilcab", sum := "b5c61ec1f0332426d00387c8b67ec911e0df0abdbb3b8aa95a234f7211984d6f", func := "loop.example/g00931/laws.FnExactGroupsOf", spec := "fnExactGroupsOf", apart := false, narrowed := true }
def FnExactGroupsOfUptoSaid : Prop := fnExactGroupsOfUptoRow.holds Try.pinned (OpenSpec.upto fnExactGroupsOfSpec)

/-- 'laws.FnJoins', WHERE WHAT IT READS IS OF BULK AT MOST 1048576: true; the input reads as it did. -/
def fnJoinsUptoRow : OpenClaim := { program := "ytfgbfmpolhilcab", sum := "b5c61ec1f0332426d00387c8b67ec911e0df0abdbb3b8aa95a234f7211984d6f", func := "loop.example/g00931/laws.FnJoins", spec := "fnJoins", unfollowed := true, recurses := true, apart := false, narrowed := true }
def FnJoinsUptoSaid : Prop := fnJoinsUptoRow.holds Try.pinned (OpenSpec.upto fnJoinsSpec)

/-- 'laws.FnExactValidWalker', WHERE WHAT IT READS IS OF BULK AT MOST 1048576: true; the input reads as it did. -/
def fnExactValidWalkerUptoRow : OpenClaim := { program := "ytfgbfmpolhilcab", sum := "b5c61ec1f0332426d00387c8b67ec911e0df0abdbb3b8aa95a234f7211984d6f", func := "loop.example/g00931/laws.FnExactValidWalker", spec := "fnExactValidWalker", apart := false, narrowed := true }
def FnExactValidWalkerUptoSaid : Prop := fnExactValidWalkerUptoRow.holds Try.pinned (OpenSpec.upto fnExactValidWalkerSpec)

/-- 'laws.FnExactBackWalker', WHERE WHAT IT READS IS OF BULK AT MOST 1048576: true; the input reads as it did. -/
def fnExactBackWalkerUptoRow : OpenClaim := { program := "ytfgbfmpolhilcab", sum := "b5c61ec1f0332426d00387c8b67ec911e0df0abdbb3b8aa95a234f7211984d6f", func := "loop.example/g00931/laws.FnExactBackWalker", spec := "fnExactBackWalker", apart := false, narrowed := true }
def FnExactBackWalkerUptoSaid : Prop := fnExactBackWalkerUptoRow.holds Try.pinned (OpenSpec.upto fnExactBackWalkerSpec)

/-- 'laws.FnExactSegmentOf', WHERE WHAT IT READS IS OF BULK AT MOST 1048576: true; the input reads as it did. -/
def fnExactSegmentOfUptoRow : OpenClaim := { program := "ytfgbfmpolhilcab", sum := "b5c61ec1f0332426d00387c8b67ec911e0df0abdbb3b8aa95a234f7211984d6f", func := "loop.example/g00931/laws.FnExactSegmentOf", spec := "fnExactSegmentOf", apart := false, narrowed := true }
def FnExactSegmentOfUptoSaid : Prop := fnExactSegmentOfUptoRow.holds Try.pinned (OpenSpec.upto fnExactSegmentOfSpec)

/-- 'laws.FnExactTurnsOf', WHERE WHAT IT READS IS OF BULK AT MOST 1048576: true; the input reads as it did. -/
def fnExactTurnsOfUptoRow : OpenClaim := { program := "ytfgbfmpolhilcab", sum := "b5c61ec1f0332426d00387c8b67ec911e0df0abdbb3b8aa95a234f7211984d6f", func := "loop.example/g00931/laws.FnExactTurnsOf", spec := "fnExactTurnsOf", apart := false, narrowed := true }
def FnExactTurnsOfUptoSaid : Prop := fnExactTurnsOfUptoRow.holds Try.pinned (OpenSpec.upto fnExactTurnsOfSpec)

/-- 'laws.FnSegments', WHERE WHAT IT READS IS OF BULK AT MOST 1048576: true; the input reads as it did. -/
def fnSegmentsUptoRow : OpenClaim := { program := "ytfgbfmpolhilcab", sum := "b5c61ec1f0332426d00387c8b67ec911e0df0abdbb3b8aa95a234f7211984d6f", func := "loop.example/g00931/laws.FnSegments", spec := "fnSegments", apart := false, narrowed := true }
def FnSegmentsUptoSaid : Prop := fnSegmentsUptoRow.holds Try.pinned (OpenSpec.upto fnSegmentsSpec)

/-- 'laws.FnPlainWalks', WHERE WHAT IT READS IS OF BULK AT MOST 1048576: true; the input reads as it did. -/
def fnPlainWalksUptoRow : OpenClaim := { program := "ytfgbfmpolhilcab", sum := "b5c61ec1f0332426d00387c8b67ec911e0df0abdbb3b8aa95a234f7211984d6f", func := "loop.example/g00931/laws.FnPlainWalks", spec := "fnPlainWalks", unfollowed := true, recurses := true, apart := false, narrowed := true }
def FnPlainWalksUptoSaid : Prop := fnPlainWalksUptoRow.holds Try.pinned (OpenSpec.upto fnPlainWalksSpec)

end Rows
end Go.Proofs.Ytfgbfmpolhilcab
