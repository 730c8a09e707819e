/-
  NARROWER THAN 'FOR EVERY INPUT', by the rows' own cells (each row's printed sentence says how): FnExactSymName: laid · FnExactPictureFault: ifaces, laid · FnExactReadPicture: ifaces, laid · FnSymmetries: laid.
  DERIVED. THE GIVEN ROWS OF THIS SEAT. 4 by the template 'for every input the law returns true; each argument reads behind the call as it read before'; 0 by the template 'total and deterministic' (their statements: YtdofeonkgaceeacDoorTotals.lean).
  GIVEN WITH THE SEED: the statements are not yours to turn. If you find one false, say at which input.
  Laid BY PROGRAM, IN A SANDBOX (cutbox-rows.mjs): the forced cells as the released guide's own fill.sh prints them over the translation b09c6333b6b8a61c… (all of the seat's roots in one cut). By AI agents, Wed Nov 11 2026. No macro, syntax, notation, axiom, sorry.
-/
import Derived.Test.YtdofeonkgaceeacDoorChecked
import GoSem.Claim
import GoSem.ClaimJoined
import GoSem.ClaimMapViews
import Derived.JoinedTies
import Derived.KernelRfl
namespace Go.Proofs.YtdofeonkgaceeacDoor
/- THE CELL 'sum', in the pinned program and in every row, IS THE sha256 OF THE DUMP (.gsa) THAT YtdofeonkgaceeacDoorProg.lean LOADS. Nothing in Lean hashes anything: it is a label: what it is worth is what the hold of that sum in a sandbox is worth. -/
noncomputable def Tryd.pinned : Pinned := { name := "ytdofeonkgaceeacdoor", sum := "b09c6333b6b8a61c3a3018d92cac36beebf4b20d228e81ced0115959ed5c274e", checked := Tryd.checked }
namespace Rows
def none {H : Type} : Left H := { results := [], args := [] }

/- WHAT THE LISTED PACKAGE-LEVEL VARIABLES READ AS WHEN THE CALL BEGINS. Each datum BY PROGRAM (the guide's laid-datum.mjs) off the statement by which the dump's own 'gosem.cut.vars' lays the variable. In a bare row this is a premise. The card (YtdofeonkgaceeacDoorCards.lean) ties it to the program's text. -/
def laid_loop_example_g00931_impl_symNames {H : Type} : DataW H := .agg [.lit (.string [110, 111, 110, 101]), .lit (.string [97, 99, 114, 111, 115, 115]), .lit (.string [100, 111, 119, 110]), .lit (.string [104, 97, 108, 102]), .lit (.string [115, 119, 97, 112]), .lit (.string [114, 105, 103, 104, 116]), .lit (.string [108, 101, 102, 116]), .lit (.string [111, 116, 104, 101, 114])]
def laid_errors_errorType {H : Type} : DataW H := .iface "internal/reflectlite.rtype" (.agg [.ptr (.lit (.string [101, 114, 114, 111, 114]))])
def laid_loop_example_g00931_impl_errSize {H : Type} : DataW H := .iface "*errors.errorString" (.ptr (.agg [.lit (.string [110, 111, 32, 115, 105, 122, 101, 32, 111, 102, 32, 97, 32, 112, 97, 110, 101, 108])]))
def laid_loop_example_g00931_impl_errLength {H : Type} : DataW H := .iface "*errors.errorString" (.ptr (.agg [.lit (.string [110, 111, 116, 32, 97, 115, 32, 108, 111, 110, 103, 32, 97, 115, 32, 116, 104, 101, 32, 102, 105, 114, 115, 116, 32, 108, 105, 110, 101])]))
def laid_loop_example_g00931_impl_errInner {H : Type} : DataW H := .iface "*errors.errorString" (.ptr (.agg [.lit (.string [110, 111, 32, 99, 104, 97, 114, 97, 99, 116, 101, 114, 32, 111, 102, 32, 97, 32, 98, 114, 101, 97, 107])]))
def laid_loop_example_g00931_impl_errBorder {H : Type} : DataW H := .iface "*errors.errorString" (.ptr (.agg [.lit (.string [110, 111, 32, 99, 104, 97, 114, 97, 99, 116, 101, 114, 32, 111, 102, 32, 97, 32, 98, 111, 114, 100, 101, 114, 32, 112, 111, 105, 110, 116])]))
def laid_loop_example_g00931_impl_errBlank {H : Type} : DataW H := .iface "*errors.errorString" (.ptr (.agg [.lit (.string [110, 111, 116, 32, 98, 108, 97, 110, 107])]))
def laid_loop_example_g00931_impl_turns {H : Type} : DataW H := .agg [.agg [.lit (.int .i64 1), .lit (.int .i64 1)], .agg [.lit (.int .i64 (-1)), .lit (.int .i64 1)], .agg [.lit (.int .i64 1), .lit (.int .i64 (-1))]]
def laid_loop_example_g00931_impl_exchangedBreaks {H : Type} : DataW H := .agg [.lit (.int .i64 0), .lit (.int .i64 2), .lit (.int .i64 1)]

/-- 'laws.FnExactSymName': WHATEVER THE INPUT: true; the input reads as it did. -/
def fnExactSymNameSpec : ChangeSpec := { name := "fnExactSymName", vars := ["loop.example/g00931/impl.symNames"], fn := fun _ => fun
  | [d, g1] => { results := [.lit (.bool true)], args := [d], vars := [g1] }
  | _ => none }
def fnExactSymNameRow : OpenClaim := { program := "ytdofeonkgaceeacdoor", sum := "b09c6333b6b8a61c3a3018d92cac36beebf4b20d228e81ced0115959ed5c274e", func := "loop.example/g00931/laws.FnExactSymName", spec := "fnExactSymName", named := ["loop.example/g00931/impl.symNames"], apart := false, laid := [("loop.example/g00931/impl.symNames", laid_loop_example_g00931_impl_symNames)] }
def FnExactSymNameSaid : Prop := fnExactSymNameRow.holds Tryd.pinned (OpenSpec.ofChange fnExactSymNameSpec)

/-- ITS FALSE NEIGHBOUR: 'it returns false'. Refute it at one input. -/
def fnExactSymNameWrong : ChangeSpec := { name := "fnExactSymName", vars := ["loop.example/g00931/impl.symNames"], fn := fun _ => fun
  | [d, g1] => { results := [.lit (.bool false)], args := [d], vars := [g1] }
  | _ => none }
def FnExactSymNameWrongFalsely : Prop := fnExactSymNameRow.holds Tryd.pinned (OpenSpec.ofChange fnExactSymNameWrong)

/-- 'laws.FnExactPictureFault': WHATEVER THE INPUT: true; the input reads as it did. -/
def fnExactPictureFaultSpec : ChangeSpec := { name := "fnExactPictureFault", vars := ["loop.example/g00931/impl.errSize", "loop.example/g00931/impl.errLength", "loop.example/g00931/impl.errBlank", "loop.example/g00931/impl.errBorder", "loop.example/g00931/impl.errInner"], fn := fun _ => fun
  | [d, g1, g2, g3, g4, g5] => { results := [.lit (.bool true)], args := [d], vars := [g1, g2, g3, g4, g5] }
  | _ => none }
def fnExactPictureFaultRow : OpenClaim := { program := "ytdofeonkgaceeacdoor", sum := "b09c6333b6b8a61c3a3018d92cac36beebf4b20d228e81ced0115959ed5c274e", func := "loop.example/g00931/laws.FnExactPictureFault", spec := "fnExactPictureFault", inPlace := ["internal/reflectlite.ValueOf", "(internal/reflectlite.Value).Type", "(internal/reflectlite.Value).IsNil", "internal/reflectlite.TypeOf", "(internal/reflectlite.Value).Elem", "(internal/reflectlite.Value).Set"], unfollowed := true, recurses := true, named := ["loop.example/g00931/impl.errSize", "loop.example/g00931/impl.errLength", "loop.example/g00931/impl.errBlank", "loop.example/g00931/impl.errBorder", "loop.example/g00931/impl.errInner", "errors.errorType"], ifaces := true, apart := false, laid := [("errors.errorType", laid_errors_errorType), ("loop.example/g00931/impl.errSize", laid_loop_example_g00931_impl_errSize), ("loop.example/g00931/impl.errLength", laid_loop_example_g00931_impl_errLength), ("loop.example/g00931/impl.errInner", laid_loop_example_g00931_impl_errInner), ("loop.example/g00931/impl.errBorder", laid_loop_example_g00931_impl_errBorder), ("loop.example/g00931/impl.errBlank", laid_loop_example_g00931_impl_errBlank)] }
def FnExactPictureFaultSaid : Prop := fnExactPictureFaultRow.holds Tryd.pinned (OpenSpec.ofChange fnExactPictureFaultSpec)

/-- ITS FALSE NEIGHBOUR: 'it returns false'. Refute it at one input. -/
def fnExactPictureFaultWrong : ChangeSpec := { name := "fnExactPictureFault", vars := ["loop.example/g00931/impl.errSize", "loop.example/g00931/impl.errLength", "loop.example/g00931/impl.errBlank", "loop.example/g00931/impl.errBorder", "loop.example/g00931/impl.errInner"], fn := fun _ => fun
  | [d, g1, g2, g3, g4, g5] => { results := [.lit (.bool false)], args := [d], vars := [g1, g2, g3, g4, g5] }
  | _ => none }
def FnExactPictureFaultWrongFalsely : Prop := fnExactPictureFaultRow.holds Tryd.pinned (OpenSpec.ofChange fnExactPictureFaultWrong)

/-- 'laws.FnExactReadPicture': WHATEVER THE INPUT: true; the input reads as it did. -/
def fnExactReadPictureSpec : ChangeSpec := { name := "fnExactReadPicture", vars := ["loop.example/g00931/impl.errSize", "loop.example/g00931/impl.errLength", "loop.example/g00931/impl.errBlank", "loop.example/g00931/impl.errBorder", "loop.example/g00931/impl.errInner"], fn := fun _ => fun
  | [d, g1, g2, g3, g4, g5] => { results := [.lit (.bool true)], args := [d], vars := [g1, g2, g3, g4, g5] }
  | _ => none }
def fnExactReadPictureRow : OpenClaim := { program := "ytdofeonkgaceeacdoor", sum := "b09c6333b6b8a61c3a3018d92cac36beebf4b20d228e81ced0115959ed5c274e", func := "loop.example/g00931/laws.FnExactReadPicture", spec := "fnExactReadPicture", named := ["loop.example/g00931/impl.errSize", "loop.example/g00931/impl.errLength", "loop.example/g00931/impl.errBlank", "loop.example/g00931/impl.errBorder", "loop.example/g00931/impl.errInner"], ifaces := true, apart := false, laid := [("loop.example/g00931/impl.errSize", laid_loop_example_g00931_impl_errSize), ("loop.example/g00931/impl.errLength", laid_loop_example_g00931_impl_errLength), ("loop.example/g00931/impl.errInner", laid_loop_example_g00931_impl_errInner), ("loop.example/g00931/impl.errBorder", laid_loop_example_g00931_impl_errBorder), ("loop.example/g00931/impl.errBlank", laid_loop_example_g00931_impl_errBlank)] }
def FnExactReadPictureSaid : Prop := fnExactReadPictureRow.holds Tryd.pinned (OpenSpec.ofChange fnExactReadPictureSpec)

/-- ITS FALSE NEIGHBOUR: 'it returns false'. Refute it at one input. -/
def fnExactReadPictureWrong : ChangeSpec := { name := "fnExactReadPicture", vars := ["loop.example/g00931/impl.errSize", "loop.example/g00931/impl.errLength", "loop.example/g00931/impl.errBlank", "loop.example/g00931/impl.errBorder", "loop.example/g00931/impl.errInner"], fn := fun _ => fun
  | [d, g1, g2, g3, g4, g5] => { results := [.lit (.bool false)], args := [d], vars := [g1, g2, g3, g4, g5] }
  | _ => none }
def FnExactReadPictureWrongFalsely : Prop := fnExactReadPictureRow.holds Tryd.pinned (OpenSpec.ofChange fnExactReadPictureWrong)

/-- 'laws.FnSymmetries': WHATEVER THE INPUT: true; the input reads as it did. -/
def fnSymmetriesSpec : ChangeSpec := { name := "fnSymmetries", vars := ["loop.example/g00931/impl.exchangedBreaks", "loop.example/g00931/impl.symNames", "loop.example/g00931/impl.turns"], fn := fun _ => fun
  | [d, g1, g2, g3] => { results := [.lit (.bool true)], args := [d], vars := [g1, g2, g3] }
  | _ => none }
def fnSymmetriesRow : OpenClaim := { program := "ytdofeonkgaceeacdoor", sum := "b09c6333b6b8a61c3a3018d92cac36beebf4b20d228e81ced0115959ed5c274e", func := "loop.example/g00931/laws.FnSymmetries", spec := "fnSymmetries", unfollowed := true, recurses := true, named := ["loop.example/g00931/impl.exchangedBreaks", "loop.example/g00931/impl.symNames", "loop.example/g00931/impl.turns"], apart := false, laid := [("loop.example/g00931/impl.turns", laid_loop_example_g00931_impl_turns), ("loop.example/g00931/impl.symNames", laid_loop_example_g00931_impl_symNames), ("loop.example/g00931/impl.exchangedBreaks", laid_loop_example_g00931_impl_exchangedBreaks)] }
def FnSymmetriesSaid : Prop := fnSymmetriesRow.holds Tryd.pinned (OpenSpec.ofChange fnSymmetriesSpec)

/-- ITS FALSE NEIGHBOUR: 'it returns false'. Refute it at one input. -/
def fnSymmetriesWrong : ChangeSpec := { name := "fnSymmetries", vars := ["loop.example/g00931/impl.exchangedBreaks", "loop.example/g00931/impl.symNames", "loop.example/g00931/impl.turns"], fn := fun _ => fun
  | [d, g1, g2, g3] => { results := [.lit (.bool false)], args := [d], vars := [g1, g2, g3] }
  | _ => none }
def FnSymmetriesWrongFalsely : Prop := fnSymmetriesRow.holds Tryd.pinned (OpenSpec.ofChange fnSymmetriesWrong)

/- THE SECOND FORM. 'bulk': how many values and letters a reading holds, each counted each time it is reached (what is shared counts as often as it is met; a slice's spare places count too). A statement '..UptoSaid' is the law's where the arguments, and the package variables that the reading takes, are together of bulk at most 1048576: NARROWER than '..Said'. Prove '..Said' where nothing that the law and all that it calls make is longer than what came in: it says more and counts as full. Else prove '..UptoSaid'. A law counts once. -/
mutual
def uptoBulk {H : Type} : DataW H → Nat
  | .lit (.string bytes) => bytes.length + 1
  | .lit _ => 1
  | .nil => 1
  | .ptr d => uptoBulk d + 1
  | .slice elems spare => uptoBulkAll elems + uptoBulkAll spare + 1
  | .agg parts => uptoBulkAll parts + 1
  | .iface _ d => uptoBulk d + 1
  | .map entries => uptoBulkEntries entries + 1
  | .held _ => 1
def uptoBulkAll {H : Type} : List (DataW H) → Nat
  | [] => 0
  | d :: r => uptoBulk d + uptoBulkAll r
def uptoBulkEntries {H : Type} : List (Lit × DataW H) → Nat
  | [] => 0
  | x :: r => uptoBulkEntry x + uptoBulkEntries r
def uptoBulkEntry {H : Type} : Lit × DataW H → Nat
  | (.string bytes, d) => bytes.length + uptoBulk d + 1
  | (_, d) => uptoBulk d + 1
 end
def uptoSmall : (H : Type) → List (DataW H) → Bool := fun _ ds => decide (uptoBulkAll ds ≤ 1048576)
def OpenSpec.upto (s : _root_.Go.ChangeSpec) : _root_.Go.OpenSpec := { _root_.Go.OpenSpec.ofChange s with cond := some uptoSmall }

/-- 'laws.FnExactSymName', WHERE WHAT IT READS IS OF BULK AT MOST 1048576: true; the input reads as it did. -/
def fnExactSymNameUptoRow : OpenClaim := { program := "ytdofeonkgaceeacdoor", sum := "b09c6333b6b8a61c3a3018d92cac36beebf4b20d228e81ced0115959ed5c274e", func := "loop.example/g00931/laws.FnExactSymName", spec := "fnExactSymName", named := ["loop.example/g00931/impl.symNames"], apart := false, laid := [("loop.example/g00931/impl.symNames", laid_loop_example_g00931_impl_symNames)], narrowed := true }
def FnExactSymNameUptoSaid : Prop := fnExactSymNameUptoRow.holds Tryd.pinned (OpenSpec.upto fnExactSymNameSpec)

/-- 'laws.FnExactPictureFault', WHERE WHAT IT READS IS OF BULK AT MOST 1048576: true; the input reads as it did. -/
def fnExactPictureFaultUptoRow : OpenClaim := { program := "ytdofeonkgaceeacdoor", sum := "b09c6333b6b8a61c3a3018d92cac36beebf4b20d228e81ced0115959ed5c274e", func := "loop.example/g00931/laws.FnExactPictureFault", spec := "fnExactPictureFault", inPlace := ["internal/reflectlite.ValueOf", "(internal/reflectlite.Value).Type", "(internal/reflectlite.Value).IsNil", "internal/reflectlite.TypeOf", "(internal/reflectlite.Value).Elem", "(internal/reflectlite.Value).Set"], unfollowed := true, recurses := true, named := ["loop.example/g00931/impl.errSize", "loop.example/g00931/impl.errLength", "loop.example/g00931/impl.errBlank", "loop.example/g00931/impl.errBorder", "loop.example/g00931/impl.errInner", "errors.errorType"], ifaces := true, apart := false, laid := [("errors.errorType", laid_errors_errorType), ("loop.example/g00931/impl.errSize", laid_loop_example_g00931_impl_errSize), ("loop.example/g00931/impl.errLength", laid_loop_example_g00931_impl_errLength), ("loop.example/g00931/impl.errInner", laid_loop_example_g00931_impl_errInner), ("loop.example/g00931/impl.errBorder", laid_loop_example_g00931_impl_errBorder), ("loop.example/g00931/impl.errBlank", laid_loop_example_g00931_impl_errBlank)], narrowed := true }
def FnExactPictureFaultUptoSaid : Prop := fnExactPictureFaultUptoRow.holds Tryd.pinned (OpenSpec.upto fnExactPictureFaultSpec)

/-- 'laws.FnExactReadPicture', WHERE WHAT IT READS IS OF BULK AT MOST 1048576: true; the input reads as it did. -/
def fnExactReadPictureUptoRow : OpenClaim := { program := "ytdofeonkgaceeacdoor", sum := "b09c6333b6b8a61c3a3018d92cac36beebf4b20d228e81ced0115959ed5c274e", func := "loop.example/g00931/laws.FnExactReadPicture", spec := "fnExactReadPicture", named := ["loop.example/g00931/impl.errSize", "loop.example/g00931/impl.errLength", "loop.example/g00931/impl.errBlank", "loop.example/g00931/impl.errBorder", "loop.example/g00931/impl.errInner"], ifaces := true, apart := false, laid := [("loop.example/g00931/impl.errSize", laid_loop_example_g00931_impl_errSize), ("loop.example/g00931/impl.errLength", laid_loop_example_g00931_impl_errLength), ("loop.example/g00931/impl.errInner", laid_loop_example_g00931_impl_errInner), ("loop.example/g00931/impl.errBorder", laid_loop_example_g00931_impl_errBorder), ("loop.example/g00931/impl.errBlank", laid_loop_example_g00931_impl_errBlank)], narrowed := true }
def FnExactReadPictureUptoSaid : Prop := fnExactReadPictureUptoRow.holds Tryd.pinned (OpenSpec.upto fnExactReadPictureSpec)

/-- 'laws.FnSymmetries', WHERE WHAT IT READS IS OF BULK AT MOST 1048576: true; the input reads as it did. -/
def fnSymmetriesUptoRow : OpenClaim := { program := "ytdofeonkgaceeacdoor", sum := "b09c6333b6b8a61c3a3018d92cac36beebf4b20d228e81ced0115959ed5c274e", func := "loop.example/g00931/laws.FnSymmetries", spec := "fnSymmetries", unfollowed := true, recurses := true, named := ["loop.example/g00931/impl.exchangedBreaks", "loop.example/g00931/impl.symNames", "loop.example/g00931/impl.turns"], apart := false, laid := [("loop.example/g00931/impl.turns", laid_loop_example_g00931_impl_turns), ("loop.example/g00931/impl.symNames", laid_loop_example_g00931_impl_symNames), ("loop.example/g00931/impl.exchangedBreaks", laid_loop_example_g00931_impl_exchangedBreaks)], narrowed := true }
def FnSymmetriesUptoSaid : Prop := fnSymmetriesUptoRow.holds Tryd.pinned (OpenSpec.upto fnSymmetriesSpec)

end Rows
end Go.Proofs.YtdofeonkgaceeacDoor
