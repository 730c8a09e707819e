/-
  No cell of these rows narrows 'for every input' (looked for: loops, veiled, ifaces, maps, wideKeys, modest, calm, conditions, laid).
  DERIVED. THE GIVEN ROWS OF THIS SEAT. 9 by the template 'for every input the law returns true; each argument reads behind the call as it read before'; 0 by the template 'total and deterministic' (their statements: YtcnhgfgjmdbddaaTotals.lean).
  GIVEN WITH THE SEED: the statements are not yours to turn. If you find one false, say at which input.
  Laid BY PROGRAM, IN A SANDBOX (cutbox-rows.mjs): the forced cells as the released guide's own fill.sh prints them over the translation 87f26692de0de01b… (all of the seat's roots in one cut). By AI agents, Wed Nov 11 2026. No macro, syntax, notation, axiom, sorry.
-/
import Derived.Test.YtcnhgfgjmdbddaaChecked
import GoSem.Claim
import GoSem.ClaimJoined
import GoSem.ClaimMapViews
import Derived.JoinedTies
import Derived.KernelRfl
namespace Go.Proofs.Ytcnhgfgjmdbddaa
/- THE CELL 'sum', in the pinned program and in every row, IS THE sha256 OF THE DUMP (.gsa) THAT YtcnhgfgjmdbddaaProg.lean LOADS. Nothing in Lean hashes anything: it is a label: what it is worth is what the hold of that sum in a sandbox is worth. -/
noncomputable def Try.pinned : Pinned := { name := "ytcnhgfgjmdbddaa", sum := "87f26692de0de01bee9ab00d92c467d55466255473f2d649e4e702fa5ab042cd", checked := Try.checked }
namespace Rows
def none {H : Type} : Left H := { results := [], args := [] }

/-- 'laws.FnExactSetBreak': WHATEVER THE INPUT: true; the input reads as it did. -/
def fnExactSetBreakSpec : ChangeSpec := { name := "fnExactSetBreak", fn := fun _ => fun
  | [d1, d2, d3] => { results := [.lit (.bool true)], args := [d1, d2, d3] }
  | _ => none }
def fnExactSetBreakRow : OpenClaim := { program := "ytcnhgfgjmdbddaa", sum := "87f26692de0de01bee9ab00d92c467d55466255473f2d649e4e702fa5ab042cd", func := "loop.example/g00931/laws.FnExactSetBreak", spec := "fnExactSetBreak", apart := false }
def FnExactSetBreakSaid : Prop := fnExactSetBreakRow.holds Try.pinned (OpenSpec.ofChange fnExactSetBreakSpec)

/-- ITS FALSE NEIGHBOUR: 'it returns false'. Refute it at one input. -/
def fnExactSetBreakWrong : ChangeSpec := { name := "fnExactSetBreak", fn := fun _ => fun
  | [d1, d2, d3] => { results := [.lit (.bool false)], args := [d1, d2, d3] }
  | _ => none }
def FnExactSetBreakWrongFalsely : Prop := fnExactSetBreakRow.holds Try.pinned (OpenSpec.ofChange fnExactSetBreakWrong)

/-- 'laws.FnExactValidWalker': WHATEVER THE INPUT: true; the input reads as it did. -/
def fnExactValidWalkerSpec : ChangeSpec := { name := "fnExactValidWalker", fn := fun _ => fun
  | [d1, d2] => { results := [.lit (.bool true)], args := [d1, d2] }
  | _ => none }
def fnExactValidWalkerRow : OpenClaim := { program := "ytcnhgfgjmdbddaa", sum := "87f26692de0de01bee9ab00d92c467d55466255473f2d649e4e702fa5ab042cd", func := "loop.example/g00931/laws.FnExactValidWalker", spec := "fnExactValidWalker", apart := false }
def FnExactValidWalkerSaid : Prop := fnExactValidWalkerRow.holds Try.pinned (OpenSpec.ofChange fnExactValidWalkerSpec)

/-- ITS FALSE NEIGHBOUR: 'it returns false'. Refute it at one input. -/
def fnExactValidWalkerWrong : ChangeSpec := { name := "fnExactValidWalker", fn := fun _ => fun
  | [d1, d2] => { results := [.lit (.bool false)], args := [d1, d2] }
  | _ => none }
def FnExactValidWalkerWrongFalsely : Prop := fnExactValidWalkerRow.holds Try.pinned (OpenSpec.ofChange fnExactValidWalkerWrong)

/-- 'laws.FnExactBackWalker': WHATEVER THE INPUT: true; the input reads as it did. -/
def fnExactBackWalkerSpec : ChangeSpec := { name := "fnExactBackWalker", fn := fun _ => fun
  | [d1, d2] => { results := [.lit (.bool true)], args := [d1, d2] }
  | _ => none }
def fnExactBackWalkerRow : OpenClaim := { program := "ytcnhgfgjmdbddaa", sum := "87f26692de0de01bee9ab00d92c467d55466255473f2d649e4e702fa5ab042cd", func := "loop.example/g00931/laws.FnExactBackWalker", spec := "fnExactBackWalker", apart := false }
def FnExactBackWalkerSaid : Prop := fnExactBackWalkerRow.holds Try.pinned (OpenSpec.ofChange fnExactBackWalkerSpec)

/-- ITS FALSE NEIGHBOUR: 'it returns false'. Refute it at one input. -/
def fnExactBackWalkerWrong : ChangeSpec := { name := "fnExactBackWalker", fn := fun _ => fun
  | [d1, d2] => { results := [.lit (.bool false)], args := [d1, d2] }
  | _ => none }
def FnExactBackWalkerWrongFalsely : Prop := fnExactBackWalkerRow.holds Try.pinned (OpenSpec.ofChange fnExactBackWalkerWrong)

/-- 'laws.FnExactCountSegments': WHATEVER THE INPUT: true; the input reads as it did. -/
def fnExactCountSegmentsSpec : ChangeSpec := { name := "fnExactCountSegments", fn := fun _ => fun
  | [d] => { results := [.lit (.bool true)], args := [d] }
  | _ => none }
def fnExactCountSegmentsRow : OpenClaim := { program := "ytcnhgfgjmdbddaa", sum := "87f26692de0de01bee9ab00d92c467d55466255473f2d649e4e702fa5ab042cd", func := "loop.example/g00931/laws.FnExactCountSegments", spec := "fnExactCountSegments", apart := false }
def FnExactCountSegmentsSaid : Prop := fnExactCountSegmentsRow.holds Try.pinned (OpenSpec.ofChange fnExactCountSegmentsSpec)

/-- ITS FALSE NEIGHBOUR: 'it returns false'. Refute it at one input. -/
def fnExactCountSegmentsWrong : ChangeSpec := { name := "fnExactCountSegments", fn := fun _ => fun
  | [d] => { results := [.lit (.bool false)], args := [d] }
  | _ => none }
def FnExactCountSegmentsWrongFalsely : Prop := fnExactCountSegmentsRow.holds Try.pinned (OpenSpec.ofChange fnExactCountSegmentsWrong)

/-- 'laws.FnExactSegmentOf': WHATEVER THE INPUT: true; the input reads as it did. -/
def fnExactSegmentOfSpec : ChangeSpec := { name := "fnExactSegmentOf", fn := fun _ => fun
  | [d1, d2] => { results := [.lit (.bool true)], args := [d1, d2] }
  | _ => none }
def fnExactSegmentOfRow : OpenClaim := { program := "ytcnhgfgjmdbddaa", sum := "87f26692de0de01bee9ab00d92c467d55466255473f2d649e4e702fa5ab042cd", func := "loop.example/g00931/laws.FnExactSegmentOf", spec := "fnExactSegmentOf", apart := false }
def FnExactSegmentOfSaid : Prop := fnExactSegmentOfRow.holds Try.pinned (OpenSpec.ofChange fnExactSegmentOfSpec)

/-- ITS FALSE NEIGHBOUR: 'it returns false'. Refute it at one input. -/
def fnExactSegmentOfWrong : ChangeSpec := { name := "fnExactSegmentOf", fn := fun _ => fun
  | [d1, d2] => { results := [.lit (.bool false)], args := [d1, d2] }
  | _ => none }
def FnExactSegmentOfWrongFalsely : Prop := fnExactSegmentOfRow.holds Try.pinned (OpenSpec.ofChange fnExactSegmentOfWrong)

/-- 'laws.FnExactWalkerAt': WHATEVER THE INPUT: true; the input reads as it did. -/
def fnExactWalkerAtSpec : ChangeSpec := { name := "fnExactWalkerAt", fn := fun _ => fun
  | [d1, d2] => { results := [.lit (.bool true)], args := [d1, d2] }
  | _ => none }
def fnExactWalkerAtRow : OpenClaim := { program := "ytcnhgfgjmdbddaa", sum := "87f26692de0de01bee9ab00d92c467d55466255473f2d649e4e702fa5ab042cd", func := "loop.example/g00931/laws.FnExactWalkerAt", spec := "fnExactWalkerAt", apart := false }
def FnExactWalkerAtSaid : Prop := fnExactWalkerAtRow.holds Try.pinned (OpenSpec.ofChange fnExactWalkerAtSpec)

/-- ITS FALSE NEIGHBOUR: 'it returns false'. Refute it at one input. -/
def fnExactWalkerAtWrong : ChangeSpec := { name := "fnExactWalkerAt", fn := fun _ => fun
  | [d1, d2] => { results := [.lit (.bool false)], args := [d1, d2] }
  | _ => none }
def FnExactWalkerAtWrongFalsely : Prop := fnExactWalkerAtRow.holds Try.pinned (OpenSpec.ofChange fnExactWalkerAtWrong)

/-- 'laws.FnExactTurnsOf': WHATEVER THE INPUT: true; the input reads as it did. -/
def fnExactTurnsOfSpec : ChangeSpec := { name := "fnExactTurnsOf", fn := fun _ => fun
  | [d1, d2] => { results := [.lit (.bool true)], args := [d1, d2] }
  | _ => none }
def fnExactTurnsOfRow : OpenClaim := { program := "ytcnhgfgjmdbddaa", sum := "87f26692de0de01bee9ab00d92c467d55466255473f2d649e4e702fa5ab042cd", func := "loop.example/g00931/laws.FnExactTurnsOf", spec := "fnExactTurnsOf", apart := false }
def FnExactTurnsOfSaid : Prop := fnExactTurnsOfRow.holds Try.pinned (OpenSpec.ofChange fnExactTurnsOfSpec)

/-- ITS FALSE NEIGHBOUR: 'it returns false'. Refute it at one input. -/
def fnExactTurnsOfWrong : ChangeSpec := { name := "fnExactTurnsOf", fn := fun _ => fun
  | [d1, d2] => { results := [.lit (.bool false)], args := [d1, d2] }
  | _ => none }
def FnExactTurnsOfWrongFalsely : Prop := fnExactTurnsOfRow.holds Try.pinned (OpenSpec.ofChange fnExactTurnsOfWrong)

/-- 'laws.FnExactAllWalkers': WHATEVER THE INPUT: true; the input reads as it did. -/
def fnExactAllWalkersSpec : ChangeSpec := { name := "fnExactAllWalkers", fn := fun _ => fun
  | [d] => { results := [.lit (.bool true)], args := [d] }
  | _ => none }
def fnExactAllWalkersRow : OpenClaim := { program := "ytcnhgfgjmdbddaa", sum := "87f26692de0de01bee9ab00d92c467d55466255473f2d649e4e702fa5ab042cd", func := "loop.example/g00931/laws.FnExactAllWalkers", spec := "fnExactAllWalkers", apart := false }
def FnExactAllWalkersSaid : Prop := fnExactAllWalkersRow.holds Try.pinned (OpenSpec.ofChange fnExactAllWalkersSpec)

/-- ITS FALSE NEIGHBOUR: 'it returns false'. Refute it at one input. -/
def fnExactAllWalkersWrong : ChangeSpec := { name := "fnExactAllWalkers", fn := fun _ => fun
  | [d] => { results := [.lit (.bool false)], args := [d] }
  | _ => none }
def FnExactAllWalkersWrongFalsely : Prop := fnExactAllWalkersRow.holds Try.pinned (OpenSpec.ofChange fnExactAllWalkersWrong)

/-- 'laws.FnSegments': WHATEVER THE INPUT: true; the input reads as it did. -/
def fnSegmentsSpec : ChangeSpec := { name := "fnSegments", fn := fun _ => fun
  | [d] => { results := [.lit (.bool true)], args := [d] }
  | _ => none }
def fnSegmentsRow : OpenClaim := { program := "ytcnhgfgjmdbddaa", sum := "87f26692de0de01bee9ab00d92c467d55466255473f2d649e4e702fa5ab042cd", func := "loop.example/g00931/laws.FnSegments", spec := "fnSegments", apart := false }
def FnSegmentsSaid : Prop := fnSegmentsRow.holds Try.pinned (OpenSpec.ofChange fnSegmentsSpec)

/-- ITS FALSE NEIGHBOUR: 'it returns false'. Refute it at one input. -/
def fnSegmentsWrong : ChangeSpec := { name := "fnSegments", fn := fun _ => fun
  | [d] => { results := [.lit (.bool false)], args := [d] }
  | _ => none }
def FnSegmentsWrongFalsely : Prop := fnSegmentsRow.holds Try.pinned (OpenSpec.ofChange fnSegmentsWrong)

/- THE SECOND FORM. 'bulk': how many values and letters a reading holds, each counted each time it is reached (what is shared counts as often as it is met; a slice's spare places count too). A statement '..UptoSaid' is the law's where the arguments, and the package variables that the reading takes, are together of bulk at most 1048576: NARROWER than '..Said'. Prove '..Said' where nothing that the law and all that it calls make is longer than what came in: it says more and counts as full. Else prove '..UptoSaid'. A law counts once. -/
mutual
def uptoBulk {H : Type} : DataW H → Nat
  | .lit (.string bytes) => bytes.length + 1
  | .lit _ => 1
  | .nil => 1
  | .ptr d => uptoBulk d + 1
  | .slice elems spare => uptoBulkAll elems + uptoBulkAll spare + 1
  | .agg parts => uptoBulkAll parts + 1
  | .iface _ d => uptoBulk d + 1
  | .map entries => uptoBulkEntries entries + 1
  | .held _ => 1
def uptoBulkAll {H : Type} : List (DataW H) → Nat
  | [] => 0
  | d :: r => uptoBulk d + uptoBulkAll r
def uptoBulkEntries {H : Type} : List (Lit × DataW H) → Nat
  | [] => 0
  | x :: r => uptoBulkEntry x + uptoBulkEntries r
def uptoBulkEntry {H : Type} : Lit × DataW H → Nat
  | (.string bytes, d) => bytes.length + uptoBulk d + 1
  | (_, d) => uptoBulk d + 1
 end
def uptoSmall : (H : Type) → List (DataW H) → Bool := fun _ ds => decide (uptoBulkAll ds ≤ 1048576)
def OpenSpec.upto (s : _root_.Go.ChangeSpec) : _root_.Go.OpenSpec := { _root_.Go.OpenSpec.ofChange s with cond := some uptoSmall }

/-- 'laws.FnExactSetBreak', WHERE WHAT IT READS IS OF BULK AT MOST 1048576: true; the input reads as it did. -/
def fnExactSetBreakUptoRow : OpenClaim := { program := "ytcnhgfgjmdbddaa", sum := "87f26692de0de01bee9ab00d92c467d55466255473f2d649e4e702fa5ab042cd", func := "loop.example/g00931/laws.FnExactSetBreak", spec := "fnExactSetBreak", apart := false, narrowed := true }
def FnExactSetBreakUptoSaid : Prop := fnExactSetBreakUptoRow.holds Try.pinned (OpenSpec.upto fnExactSetBreakSpec)

/-- 'laws.FnExactValidWalker', WHERE WHAT IT READS IS OF BULK AT MOST 1048576: true; the input reads as it did. -/
def fnExactValidWalkerUptoRow : OpenClaim := { program := "ytcnhgfgjmdbddaa", sum := "87f26692de0de01bee9ab00d92c467d55466255473f2d649e4e702fa5ab042cd", func := "loop.example/g00931/laws.FnExactValidWalker", spec := "fnExactValidWalker", apart := false, narrowed := true }
def FnExactValidWalkerUptoSaid : Prop := fnExactValidWalkerUptoRow.holds Try.pinned (OpenSpec.upto fnExactValidWalkerSpec)

/-- 'laws.FnExactBackWalker', WHERE WHAT IT READS IS OF BULK AT MOST 1048576: true; the input reads as it did. -/
def fnExactBackWalkerUptoRow : OpenClaim := { program := "ytcnhgfgjmdbddaa", sum := "87f26692de0de01bee9ab00d92c467d55466255473f2d649e4e702fa5ab042cd", func := "loop.example/g00931/laws.FnExactBackWalker", spec := "fnExactBackWalker", apart := false, narrowed := true }
def FnExactBackWalkerUptoSaid : Prop := fnExactBackWalkerUptoRow.holds Try.pinned (OpenSpec.upto fnExactBackWalkerSpec)

/-- 'laws.FnExactCountSegments', WHERE WHAT IT READS IS OF BULK AT MOST 1048576: true; the input reads as it did. -/
def fnExactCountSegmentsUptoRow : OpenClaim := { program := "ytcnhgfgjmdbddaa", sum := "87f26692de0de01bee9ab00d92c467d55466255473f2d649e4e702fa5ab042cd", func := "loop.example/g00931/laws.FnExactCountSegments", spec := "fnExactCountSegments", apart := false, narrowed := true }
def FnExactCountSegmentsUptoSaid : Prop := fnExactCountSegmentsUptoRow.holds Try.pinned (OpenSpec.upto fnExactCountSegmentsSpec)

/-- 'laws.FnExactSegmentOf', WHERE WHAT IT READS IS OF BULK AT MOST 1048576: true; the input reads as it did. -/
def fnExactSegmentOfUptoRow : OpenClaim := { program := "ytcnhgfgjmdbddaa", sum := "87f26692de0de01bee9ab00d92c467d55466255473f2d649e4e702fa5ab042cd", func := "loop.example/g00931/laws.FnExactSegmentOf", spec := "fnExactSegmentOf", apart := false, narrowed := true }
def FnExactSegmentOfUptoSaid : Prop := fnExactSegmentOfUptoRow.holds Try.pinned (OpenSpec.upto fnExactSegmentOfSpec)

/-- 'laws.FnExactWalkerAt', WHERE WHAT IT READS IS OF BULK AT MOST 1048576: true; the input reads as it did. -/
def fnExactWalkerAtUptoRow : OpenClaim := { program := "ytcnhgfgjmdbddaa", sum := "87f26692de0de01bee9ab00d92c467d55466255473f2d649e4e702fa5ab042cd", func := "loop.example/g00931/laws.FnExactWalkerAt", spec := "fnExactWalkerAt", apart := false, narrowed := true }
def FnExactWalkerAtUptoSaid : Prop := fnExactWalkerAtUptoRow.holds Try.pinned (OpenSpec.upto fnExactWalkerAtSpec)

/-- 'laws.FnExactTurnsOf', WHERE WHAT IT READS IS OF BULK AT MOST 1048576: true; the input reads as it did. -/
def fnExactTurnsOfUptoRow : OpenClaim := { program := "ytcnhgfgjmdbddaa", sum := "87f26692de0de01bee9ab00d92c467d55466255473f2d649e4e702fa5ab042cd", func := "loop.example/g00931/laws.FnExactTurnsOf", spec := "fnExactTurnsOf", apart := false, narrowed := true }
def FnExactTurnsOfUptoSaid : Prop := fnExactTurnsOfUptoRow.holds Try.pinned (OpenSpec.upto fnExactTurnsOfSpec)

/-- 'laws.FnExactAllWalkers', WHERE WHAT IT READS IS OF BULK AT MOST 1048576: true; the input reads as it did. -/
def fnExactAllWalkersUptoRow : OpenClaim := { program := "ytcnhgfgjmdbddaa", sum := "87f26692de0de01bee9ab00d92c467d55466255473f2d649e4e702fa5ab042cd", func := "loop.example/g00931/laws.FnExactAllWalkers", spec := "fnExactAllWalkers", apart := false, narrowed := true }
def FnExactAllWalkersUptoSaid : Prop := fnExactAllWalkersUptoRow.holds Try.pinned (OpenSpec.upto fnExactAllWalkersSpec)

/-- 'laws.FnSegments', WHERE WHAT IT READS IS OF BULK AT MOST 1048576: true; the input reads as it did. -/
def fnSegmentsUptoRow : OpenClaim := { program := "ytcnhgfgjmdbddaa", sum := "87f26692de0de01bee9ab00d92c467d55466255473f2d649e4e702fa5ab042cd", func := "loop.example/g00931/laws.FnSegments", spec := "fnSegments", apart := false, narrowed := true }
def FnSegmentsUptoSaid : Prop := fnSegmentsUptoRow.holds Try.pinned (OpenSpec.upto fnSegmentsSpec)

end Rows
end Go.Proofs.Ytcnhgfgjmdbddaa
