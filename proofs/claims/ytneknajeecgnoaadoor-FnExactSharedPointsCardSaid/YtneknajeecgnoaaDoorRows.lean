/-
  NARROWER THAN 'FOR EVERY INPUT', by the rows' own cells (each row's printed sentence says how): FnSharedPoints: laid · FnExactCurvePoints: laid · FnExactSharedPoints: laid.
  DERIVED. THE GIVEN ROWS OF THIS SEAT. 3 by the template 'for every input the law returns true; each argument reads behind the call as it read before'; 0 by the template 'total and deterministic' (their statements: YtneknajeecgnoaaDoorTotals.lean).
  GIVEN WITH THE SEED: the statements are not yours to turn. If you find one false, say at which input.
  Laid BY PROGRAM, IN A SANDBOX (cutbox-rows.mjs): the forced cells as the released guide's own fill.sh prints them over the translation d0ae9a9a88590a04… (all of the seat's roots in one cut). By AI agents, Wed Nov 11 2026. No macro, syntax, notation, axiom, sorry.
-/
import Derived.Test.YtneknajeecgnoaaDoorChecked
import GoSem.Claim
import GoSem.ClaimJoined
import GoSem.ClaimMapViews
import Derived.JoinedTies
import Derived.KernelRfl
namespace Go.Proofs.YtneknajeecgnoaaDoor
/- THE CELL 'sum', in the pinned program and in every row, IS THE sha256 OF THE DUMP (.gsa) THAT YtneknajeecgnoaaDoorProg.lean LOADS. Nothing in Lean hashes anything: it is a label: what it is worth is what the hold of that sum in a sandbox is worth. -/
noncomputable def Tryd.pinned : Pinned := { name := "ytneknajeecgnoaadoor", sum := "d0ae9a9a88590a049cdea61c24f774e26b98b94fd9ac29722a090bd7dfb04326", checked := Tryd.checked }
namespace Rows
def none {H : Type} : Left H := { results := [], args := [] }

/- WHAT THE LISTED PACKAGE-LEVEL VARIABLES READ AS WHEN THE CALL BEGINS. Each datum BY PROGRAM (the guide's laid-datum.mjs) off the statement by which the dump's own 'gosem.cut.vars' lays the variable. In a bare row this is a premise. The card (YtneknajeecgnoaaDoorCards.lean) ties it to the program's text. -/
def laid_loop_example_g00931_impl_turns {H : Type} : DataW H := .agg [.agg [.lit (.int .i64 1), .lit (.int .i64 1)], .agg [.lit (.int .i64 (-1)), .lit (.int .i64 1)], .agg [.lit (.int .i64 1), .lit (.int .i64 (-1))]]
def laid_loop_example_g00931_impl_directions {H : Type} : DataW H := .agg [.agg [.lit (.int .i64 (-1)), .lit (.int .i64 (-1))], .agg [.lit (.int .i64 1), .lit (.int .i64 (-1))], .agg [.lit (.int .i64 (-1)), .lit (.int .i64 1)], .agg [.lit (.int .i64 1), .lit (.int .i64 1)]]

/-- 'laws.FnSharedPoints': WHATEVER THE INPUT: true; the input reads as it did. -/
def fnSharedPointsSpec : ChangeSpec := { name := "fnSharedPoints", vars := ["loop.example/g00931/impl.turns", "loop.example/g00931/impl.directions"], fn := fun _ => fun
  | [d, g1, g2] => { results := [.lit (.bool true)], args := [d], vars := [g1, g2] }
  | _ => none }
def fnSharedPointsRow : OpenClaim := { program := "ytneknajeecgnoaadoor", sum := "d0ae9a9a88590a049cdea61c24f774e26b98b94fd9ac29722a090bd7dfb04326", func := "loop.example/g00931/laws.FnSharedPoints", spec := "fnSharedPoints", unfollowed := true, recurses := true, named := ["loop.example/g00931/impl.turns", "loop.example/g00931/impl.directions"], apart := false, laid := [("loop.example/g00931/impl.turns", laid_loop_example_g00931_impl_turns), ("loop.example/g00931/impl.directions", laid_loop_example_g00931_impl_directions)] }
def FnSharedPointsSaid : Prop := fnSharedPointsRow.holds Tryd.pinned (OpenSpec.ofChange fnSharedPointsSpec)

/-- ITS FALSE NEIGHBOUR: 'it returns false'. Refute it at one input. -/
def fnSharedPointsWrong : ChangeSpec := { name := "fnSharedPoints", vars := ["loop.example/g00931/impl.turns", "loop.example/g00931/impl.directions"], fn := fun _ => fun
  | [d, g1, g2] => { results := [.lit (.bool false)], args := [d], vars := [g1, g2] }
  | _ => none }
def FnSharedPointsWrongFalsely : Prop := fnSharedPointsRow.holds Tryd.pinned (OpenSpec.ofChange fnSharedPointsWrong)

/-- 'laws.FnExactCurvePoints': WHATEVER THE INPUT: true; the input reads as it did. -/
def fnExactCurvePointsSpec : ChangeSpec := { name := "fnExactCurvePoints", vars := ["loop.example/g00931/impl.turns", "loop.example/g00931/impl.directions"], fn := fun _ => fun
  | [d1, d2, g1, g2] => { results := [.lit (.bool true)], args := [d1, d2], vars := [g1, g2] }
  | _ => none }
def fnExactCurvePointsRow : OpenClaim := { program := "ytneknajeecgnoaadoor", sum := "d0ae9a9a88590a049cdea61c24f774e26b98b94fd9ac29722a090bd7dfb04326", func := "loop.example/g00931/laws.FnExactCurvePoints", spec := "fnExactCurvePoints", unfollowed := true, recurses := true, named := ["loop.example/g00931/impl.turns", "loop.example/g00931/impl.directions"], apart := false, laid := [("loop.example/g00931/impl.turns", laid_loop_example_g00931_impl_turns), ("loop.example/g00931/impl.directions", laid_loop_example_g00931_impl_directions)] }
def FnExactCurvePointsSaid : Prop := fnExactCurvePointsRow.holds Tryd.pinned (OpenSpec.ofChange fnExactCurvePointsSpec)

/-- ITS FALSE NEIGHBOUR: 'it returns false'. Refute it at one input. -/
def fnExactCurvePointsWrong : ChangeSpec := { name := "fnExactCurvePoints", vars := ["loop.example/g00931/impl.turns", "loop.example/g00931/impl.directions"], fn := fun _ => fun
  | [d1, d2, g1, g2] => { results := [.lit (.bool false)], args := [d1, d2], vars := [g1, g2] }
  | _ => none }
def FnExactCurvePointsWrongFalsely : Prop := fnExactCurvePointsRow.holds Tryd.pinned (OpenSpec.ofChange fnExactCurvePointsWrong)

/-- 'laws.FnExactSharedPoints': WHATEVER THE INPUT: true; the input reads as it did. -/
def fnExactSharedPointsSpec : ChangeSpec := { name := "fnExactSharedPoints", vars := ["loop.example/g00931/impl.turns", "loop.example/g00931/impl.directions"], fn := fun _ => fun
  | [d1, d2, d3, g1, g2] => { results := [.lit (.bool true)], args := [d1, d2, d3], vars := [g1, g2] }
  | _ => none }
def fnExactSharedPointsRow : OpenClaim := { program := "ytneknajeecgnoaadoor", sum := "d0ae9a9a88590a049cdea61c24f774e26b98b94fd9ac29722a090bd7dfb04326", func := "loop.example/g00931/laws.FnExactSharedPoints", spec := "fnExactSharedPoints", unfollowed := true, recurses := true, named := ["loop.example/g00931/impl.turns", "loop.example/g00931/impl.directions"], apart := false, laid := [("loop.example/g00931/impl.turns", laid_loop_example_g00931_impl_turns), ("loop.example/g00931/impl.directions", laid_loop_example_g00931_impl_directions)] }
def FnExactSharedPointsSaid : Prop := fnExactSharedPointsRow.holds Tryd.pinned (OpenSpec.ofChange fnExactSharedPointsSpec)

/-- ITS FALSE NEIGHBOUR: 'it returns false'. Refute it at one input. -/
def fnExactSharedPointsWrong : ChangeSpec := { name := "fnExactSharedPoints", vars := ["loop.example/g00931/impl.turns", "loop.example/g00931/impl.directions"], fn := fun _ => fun
  | [d1, d2, d3, g1, g2] => { results := [.lit (.bool false)], args := [d1, d2, d3], vars := [g1, g2] }
  | _ => none }
def FnExactSharedPointsWrongFalsely : Prop := fnExactSharedPointsRow.holds Tryd.pinned (OpenSpec.ofChange fnExactSharedPointsWrong)

/- THE SECOND FORM. 'bulk': how many values and letters a reading holds, each counted each time it is reached (what is shared counts as often as it is met; a slice's spare places count too). A statement '..UptoSaid' is the law's where the arguments, and the package variables that the reading takes, are together of bulk at most 1048576: NARROWER than '..Said'. Prove '..Said' where nothing that the law and all that it calls make is longer than what came in: it says more and counts as full. Else prove '..UptoSaid'. A law counts once. -/
mutual
def uptoBulk {H : Type} : DataW H → Nat
  | .lit (.string bytes) => bytes.length + 1
  | .lit _ => 1
  | .nil => 1
  | .ptr d => uptoBulk d + 1
  | .slice elems spare => uptoBulkAll elems + uptoBulkAll spare + 1
  | .agg parts => uptoBulkAll parts + 1
  | .iface _ d => uptoBulk d + 1
  | .map entries => uptoBulkEntries entries + 1
  | .held _ => 1
def uptoBulkAll {H : Type} : List (DataW H) → Nat
  | [] => 0
  | d :: r => uptoBulk d + uptoBulkAll r
def uptoBulkEntries {H : Type} : List (Lit × DataW H) → Nat
  | [] => 0
  | x :: r => uptoBulkEntry x + uptoBulkEntries r
def uptoBulkEntry {H : Type} : Lit × DataW H → Nat
  | (.string bytes, d) => bytes.length + uptoBulk d + 1
  | (_, d) => uptoBulk d + 1
 end
def uptoSmall : (H : Type) → List (DataW H) → Bool := fun _ ds => decide (uptoBulkAll ds ≤ 1048576)
def OpenSpec.upto (s : _root_.Go.ChangeSpec) : _root_.Go.OpenSpec := { _root_.Go.OpenSpec.ofChange s with cond := some uptoSmall }

/-- 'laws.FnSharedPoints', WHERE WHAT IT READS IS OF BULK AT MOST 1048576: true; the input reads as it did. -/
def fnSharedPointsUptoRow : OpenClaim := { program := "ytneknajeecgnoaadoor", sum := "d0ae9a9a88590a049cdea61c24f774e26b98b94fd9ac29722a090bd7dfb04326", func := "loop.example/g00931/laws.FnSharedPoints", spec := "fnSharedPoints", unfollowed := true, recurses := true, named := ["loop.example/g00931/impl.turns", "loop.example/g00931/impl.directions"], apart := false, laid := [("loop.example/g00931/impl.turns", laid_loop_example_g00931_impl_turns), ("loop.example/g00931/impl.directions", laid_loop_example_g00931_impl_directions)], narrowed := true }
def FnSharedPointsUptoSaid : Prop := fnSharedPointsUptoRow.holds Tryd.pinned (OpenSpec.upto fnSharedPointsSpec)

/-- 'laws.FnExactCurvePoints', WHERE WHAT IT READS IS OF BULK AT MOST 1048576: true; the input reads as it did. -/
def fnExactCurvePointsUptoRow : OpenClaim := { program := "ytneknajeecgnoaadoor", sum := "d0ae9a9a88590a049cdea61c24f774e26b98b94fd9ac29722a090bd7dfb04326", func := "loop.example/g00931/laws.FnExactCurvePoints", spec := "fnExactCurvePoints", unfollowed := true, recurses := true, named := ["loop.example/g00931/impl.turns", "loop.example/g00931/impl.directions"], apart := false, laid := [("loop.example/g00931/impl.turns", laid_loop_example_g00931_impl_turns), ("loop.example/g00931/impl.directions", laid_loop_example_g00931_impl_directions)], narrowed := true }
def FnExactCurvePointsUptoSaid : Prop := fnExactCurvePointsUptoRow.holds Tryd.pinned (OpenSpec.upto fnExactCurvePointsSpec)

/-- 'laws.FnExactSharedPoints', WHERE WHAT IT READS IS OF BULK AT MOST 1048576: true; the input reads as it did. -/
def fnExactSharedPointsUptoRow : OpenClaim := { program := "ytneknajeecgnoaadoor", sum := "d0ae9a9a88590a049cdea61c24f774e26b98b94fd9ac29722a090bd7dfb04326", func := "loop.example/g00931/laws.FnExactSharedPoints", spec := "fnExactSharedPoints", unfollowed := true, recurses := true, named := ["loop.example/g00931/impl.turns", "loop.example/g00931/impl.directions"], apart := false, laid := [("loop.example/g00931/impl.turns", laid_loop_example_g00931_impl_turns), ("loop.example/g00931/impl.directions", laid_loop_example_g00931_impl_directions)], narrowed := true }
def FnExactSharedPointsUptoSaid : Prop := fnExactSharedPointsUptoRow.holds Tryd.pinned (OpenSpec.upto fnExactSharedPointsSpec)

end Rows
end Go.Proofs.YtneknajeecgnoaaDoor
