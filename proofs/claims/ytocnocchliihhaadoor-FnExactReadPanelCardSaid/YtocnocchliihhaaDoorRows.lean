/-
  NARROWER THAN 'FOR EVERY INPUT', by the rows' own cells (each row's printed sentence says how): FnCurvePictures: laid · FnExactPictureFault: ifaces, laid · FnExactPictureFaultName: laid · FnExactReadPicture: ifaces, laid · FnExactCurvePicture: laid · FnExactPanelText: laid · FnExactReadPanel: laid.
  DERIVED. THE GIVEN ROWS OF THIS SEAT. 7 by the template 'for every input the law returns true; each argument reads behind the call as it read before'; 0 by the template 'total and deterministic' (their statements: YtocnocchliihhaaDoorTotals.lean).
  GIVEN WITH THE SEED: the statements are not yours to turn. If you find one false, say at which input.
  Laid BY PROGRAM, IN A SANDBOX (cutbox-rows.mjs): the forced cells as the released guide's own fill.sh prints them over the translation 9a313a013c9a33b5… (all of the seat's roots in one cut). By AI agents, Wed Nov 11 2026. No macro, syntax, notation, axiom, sorry.
-/
import Derived.Test.YtocnocchliihhaaDoorChecked
import GoSem.Claim
import GoSem.ClaimJoined
import GoSem.ClaimMapViews
import Derived.JoinedTies
import Derived.KernelRfl
namespace Go.Proofs.YtocnocchliihhaaDoor
/- THE CELL 'sum', in the pinned program and in every row, IS THE sha256 OF THE DUMP (.gsa) THAT YtocnocchliihhaaDoorProg.lean LOADS. Nothing in Lean hashes anything: it is a label: what it is worth is what the hold of that sum in a sandbox is worth. -/
noncomputable def Tryd.pinned : Pinned := { name := "ytocnocchliihhaadoor", sum := "9a313a013c9a33b5b3611254d01a333b406d5255bb4329b61f7a49a6522494f0", checked := Tryd.checked }
namespace Rows
def none {H : Type} : Left H := { results := [], args := [] }

/- WHAT THE LISTED PACKAGE-LEVEL VARIABLES READ AS WHEN THE CALL BEGINS. Each datum BY PROGRAM (the guide's laid-datum.mjs) off the statement by which the dump's own 'gosem.cut.vars' lays the variable. In a bare row this is a premise. The card (YtocnocchliihhaaDoorCards.lean) ties it to the program's text. -/
def laid_loop_example_g00931_impl_turns {H : Type} : DataW H := .agg [.agg [.lit (.int .i64 1), .lit (.int .i64 1)], .agg [.lit (.int .i64 (-1)), .lit (.int .i64 1)], .agg [.lit (.int .i64 1), .lit (.int .i64 (-1))]]
def laid_loop_example_g00931_impl_pictureFaultNames {H : Type} : DataW H := .agg [.lit (.string [110, 111, 110, 101]), .lit (.string [115, 105, 122, 101]), .lit (.string [108, 101, 110, 103, 116, 104]), .lit (.string [105, 110, 110, 101, 114]), .lit (.string [98, 111, 114, 100, 101, 114]), .lit (.string [98, 108, 97, 110, 107])]
def laid_errors_errorType {H : Type} : DataW H := .iface "internal/reflectlite.rtype" (.agg [.ptr (.lit (.string [101, 114, 114, 111, 114]))])
def laid_loop_example_g00931_impl_errSize {H : Type} : DataW H := .iface "*errors.errorString" (.ptr (.agg [.lit (.string [110, 111, 32, 115, 105, 122, 101, 32, 111, 102, 32, 97, 32, 112, 97, 110, 101, 108])]))
def laid_loop_example_g00931_impl_errLength {H : Type} : DataW H := .iface "*errors.errorString" (.ptr (.agg [.lit (.string [110, 111, 116, 32, 97, 115, 32, 108, 111, 110, 103, 32, 97, 115, 32, 116, 104, 101, 32, 102, 105, 114, 115, 116, 32, 108, 105, 110, 101])]))
def laid_loop_example_g00931_impl_errInner {H : Type} : DataW H := .iface "*errors.errorString" (.ptr (.agg [.lit (.string [110, 111, 32, 99, 104, 97, 114, 97, 99, 116, 101, 114, 32, 111, 102, 32, 97, 32, 98, 114, 101, 97, 107])]))
def laid_loop_example_g00931_impl_errBorder {H : Type} : DataW H := .iface "*errors.errorString" (.ptr (.agg [.lit (.string [110, 111, 32, 99, 104, 97, 114, 97, 99, 116, 101, 114, 32, 111, 102, 32, 97, 32, 98, 111, 114, 100, 101, 114, 32, 112, 111, 105, 110, 116])]))
def laid_loop_example_g00931_impl_errBlank {H : Type} : DataW H := .iface "*errors.errorString" (.ptr (.agg [.lit (.string [110, 111, 116, 32, 98, 108, 97, 110, 107])]))
def laid_math_bits_deBruijn32tab {H : Type} : DataW H := .agg [.lit (.int .u8 0), .lit (.int .u8 1), .lit (.int .u8 28), .lit (.int .u8 2), .lit (.int .u8 29), .lit (.int .u8 14), .lit (.int .u8 24), .lit (.int .u8 3), .lit (.int .u8 30), .lit (.int .u8 22), .lit (.int .u8 20), .lit (.int .u8 15), .lit (.int .u8 25), .lit (.int .u8 17), .lit (.int .u8 4), .lit (.int .u8 8), .lit (.int .u8 31), .lit (.int .u8 27), .lit (.int .u8 13), .lit (.int .u8 23), .lit (.int .u8 21), .lit (.int .u8 19), .lit (.int .u8 16), .lit (.int .u8 7), .lit (.int .u8 26), .lit (.int .u8 12), .lit (.int .u8 18), .lit (.int .u8 6), .lit (.int .u8 11), .lit (.int .u8 5), .lit (.int .u8 10), .lit (.int .u8 9)]
def laid_math_bits_deBruijn64tab {H : Type} : DataW H := .agg [.lit (.int .u8 0), .lit (.int .u8 1), .lit (.int .u8 56), .lit (.int .u8 2), .lit (.int .u8 57), .lit (.int .u8 49), .lit (.int .u8 28), .lit (.int .u8 3), .lit (.int .u8 61), .lit (.int .u8 58), .lit (.int .u8 42), .lit (.int .u8 50), .lit (.int .u8 38), .lit (.int .u8 29), .lit (.int .u8 17), .lit (.int .u8 4), .lit (.int .u8 62), .lit (.int .u8 47), .lit (.int .u8 59), .lit (.int .u8 36), .lit (.int .u8 45), .lit (.int .u8 43), .lit (.int .u8 51), .lit (.int .u8 22), .lit (.int .u8 53), .lit (.int .u8 39), .lit (.int .u8 33), .lit (.int .u8 30), .lit (.int .u8 24), .lit (.int .u8 18), .lit (.int .u8 12), .lit (.int .u8 5), .lit (.int .u8 63), .lit (.int .u8 55), .lit (.int .u8 48), .lit (.int .u8 27), .lit (.int .u8 60), .lit (.int .u8 41), .lit (.int .u8 37), .lit (.int .u8 16), .lit (.int .u8 46), .lit (.int .u8 35), .lit (.int .u8 44), .lit (.int .u8 21), .lit (.int .u8 52), .lit (.int .u8 32), .lit (.int .u8 23), .lit (.int .u8 11), .lit (.int .u8 54), .lit (.int .u8 26), .lit (.int .u8 40), .lit (.int .u8 15), .lit (.int .u8 34), .lit (.int .u8 20), .lit (.int .u8 31), .lit (.int .u8 10), .lit (.int .u8 25), .lit (.int .u8 14), .lit (.int .u8 19), .lit (.int .u8 9), .lit (.int .u8 13), .lit (.int .u8 8), .lit (.int .u8 7), .lit (.int .u8 6)]
def laid_internal_strconv_uint64pow10 {H : Type} : DataW H := .agg [.lit (.int .u64 1), .lit (.int .u64 10), .lit (.int .u64 100), .lit (.int .u64 1000), .lit (.int .u64 10000), .lit (.int .u64 100000), .lit (.int .u64 1000000), .lit (.int .u64 10000000), .lit (.int .u64 100000000), .lit (.int .u64 1000000000), .lit (.int .u64 10000000000), .lit (.int .u64 100000000000), .lit (.int .u64 1000000000000), .lit (.int .u64 10000000000000), .lit (.int .u64 100000000000000), .lit (.int .u64 1000000000000000), .lit (.int .u64 10000000000000000), .lit (.int .u64 100000000000000000), .lit (.int .u64 1000000000000000000), .lit (.int .u64 10000000000000000000)]
def laid_strconv_ErrRange {H : Type} : DataW H := .iface "*errors.errorString" (.ptr (.agg [.lit (.string [118, 97, 108, 117, 101, 32, 111, 117, 116, 32, 111, 102, 32, 114, 97, 110, 103, 101])]))
def laid_strconv_ErrSyntax {H : Type} : DataW H := .iface "*errors.errorString" (.ptr (.agg [.lit (.string [105, 110, 118, 97, 108, 105, 100, 32, 115, 121, 110, 116, 97, 120])]))

/-- 'laws.FnCurvePictures': WHATEVER THE INPUT: true; the input reads as it did. -/
def fnCurvePicturesSpec : ChangeSpec := { name := "fnCurvePictures", vars := ["loop.example/g00931/impl.turns", "loop.example/g00931/impl.pictureFaultNames"], fn := fun _ => fun
  | [d, g1, g2] => { results := [.lit (.bool true)], args := [d], vars := [g1, g2] }
  | _ => none }
def fnCurvePicturesRow : OpenClaim := { program := "ytocnocchliihhaadoor", sum := "9a313a013c9a33b5b3611254d01a333b406d5255bb4329b61f7a49a6522494f0", func := "loop.example/g00931/laws.FnCurvePictures", spec := "fnCurvePictures", inPlace := ["internal/abi.NoEscape"], unfollowed := true, recurses := true, named := ["loop.example/g00931/impl.turns", "loop.example/g00931/impl.pictureFaultNames"], plainKeys := false, apart := false, laid := [("loop.example/g00931/impl.turns", laid_loop_example_g00931_impl_turns), ("loop.example/g00931/impl.pictureFaultNames", laid_loop_example_g00931_impl_pictureFaultNames)] }
def FnCurvePicturesSaid : Prop := fnCurvePicturesRow.holds Tryd.pinned (OpenSpec.ofChange fnCurvePicturesSpec)

/-- ITS FALSE NEIGHBOUR: 'it returns false'. Refute it at one input. -/
def fnCurvePicturesWrong : ChangeSpec := { name := "fnCurvePictures", vars := ["loop.example/g00931/impl.turns", "loop.example/g00931/impl.pictureFaultNames"], fn := fun _ => fun
  | [d, g1, g2] => { results := [.lit (.bool false)], args := [d], vars := [g1, g2] }
  | _ => none }
def FnCurvePicturesWrongFalsely : Prop := fnCurvePicturesRow.holds Tryd.pinned (OpenSpec.ofChange fnCurvePicturesWrong)

/-- 'laws.FnExactPictureFault': WHATEVER THE INPUT: true; the input reads as it did. -/
def fnExactPictureFaultSpec : ChangeSpec := { name := "fnExactPictureFault", vars := ["loop.example/g00931/impl.errSize", "loop.example/g00931/impl.errLength", "loop.example/g00931/impl.errBlank", "loop.example/g00931/impl.errBorder", "loop.example/g00931/impl.errInner"], fn := fun _ => fun
  | [d, g1, g2, g3, g4, g5] => { results := [.lit (.bool true)], args := [d], vars := [g1, g2, g3, g4, g5] }
  | _ => none }
def fnExactPictureFaultRow : OpenClaim := { program := "ytocnocchliihhaadoor", sum := "9a313a013c9a33b5b3611254d01a333b406d5255bb4329b61f7a49a6522494f0", func := "loop.example/g00931/laws.FnExactPictureFault", spec := "fnExactPictureFault", inPlace := ["internal/reflectlite.ValueOf", "(internal/reflectlite.Value).Type", "(internal/reflectlite.Value).IsNil", "internal/reflectlite.TypeOf", "(internal/reflectlite.Value).Elem", "(internal/reflectlite.Value).Set"], unfollowed := true, recurses := true, named := ["loop.example/g00931/impl.errSize", "loop.example/g00931/impl.errLength", "loop.example/g00931/impl.errBlank", "loop.example/g00931/impl.errBorder", "loop.example/g00931/impl.errInner", "errors.errorType"], ifaces := true, plainKeys := false, apart := false, laid := [("errors.errorType", laid_errors_errorType), ("loop.example/g00931/impl.errSize", laid_loop_example_g00931_impl_errSize), ("loop.example/g00931/impl.errLength", laid_loop_example_g00931_impl_errLength), ("loop.example/g00931/impl.errInner", laid_loop_example_g00931_impl_errInner), ("loop.example/g00931/impl.errBorder", laid_loop_example_g00931_impl_errBorder), ("loop.example/g00931/impl.errBlank", laid_loop_example_g00931_impl_errBlank)] }
def FnExactPictureFaultSaid : Prop := fnExactPictureFaultRow.holds Tryd.pinned (OpenSpec.ofChange fnExactPictureFaultSpec)

/-- ITS FALSE NEIGHBOUR: 'it returns false'. Refute it at one input. -/
def fnExactPictureFaultWrong : ChangeSpec := { name := "fnExactPictureFault", vars := ["loop.example/g00931/impl.errSize", "loop.example/g00931/impl.errLength", "loop.example/g00931/impl.errBlank", "loop.example/g00931/impl.errBorder", "loop.example/g00931/impl.errInner"], fn := fun _ => fun
  | [d, g1, g2, g3, g4, g5] => { results := [.lit (.bool false)], args := [d], vars := [g1, g2, g3, g4, g5] }
  | _ => none }
def FnExactPictureFaultWrongFalsely : Prop := fnExactPictureFaultRow.holds Tryd.pinned (OpenSpec.ofChange fnExactPictureFaultWrong)

/-- 'laws.FnExactPictureFaultName': WHATEVER THE INPUT: true; the input reads as it did. -/
def fnExactPictureFaultNameSpec : ChangeSpec := { name := "fnExactPictureFaultName", vars := ["loop.example/g00931/impl.pictureFaultNames"], fn := fun _ => fun
  | [d, g1] => { results := [.lit (.bool true)], args := [d], vars := [g1] }
  | _ => none }
def fnExactPictureFaultNameRow : OpenClaim := { program := "ytocnocchliihhaadoor", sum := "9a313a013c9a33b5b3611254d01a333b406d5255bb4329b61f7a49a6522494f0", func := "loop.example/g00931/laws.FnExactPictureFaultName", spec := "fnExactPictureFaultName", named := ["loop.example/g00931/impl.pictureFaultNames"], plainKeys := false, apart := false, laid := [("loop.example/g00931/impl.pictureFaultNames", laid_loop_example_g00931_impl_pictureFaultNames)] }
def FnExactPictureFaultNameSaid : Prop := fnExactPictureFaultNameRow.holds Tryd.pinned (OpenSpec.ofChange fnExactPictureFaultNameSpec)

/-- ITS FALSE NEIGHBOUR: 'it returns false'. Refute it at one input. -/
def fnExactPictureFaultNameWrong : ChangeSpec := { name := "fnExactPictureFaultName", vars := ["loop.example/g00931/impl.pictureFaultNames"], fn := fun _ => fun
  | [d, g1] => { results := [.lit (.bool false)], args := [d], vars := [g1] }
  | _ => none }
def FnExactPictureFaultNameWrongFalsely : Prop := fnExactPictureFaultNameRow.holds Tryd.pinned (OpenSpec.ofChange fnExactPictureFaultNameWrong)

/-- 'laws.FnExactReadPicture': WHATEVER THE INPUT: true; the input reads as it did. -/
def fnExactReadPictureSpec : ChangeSpec := { name := "fnExactReadPicture", vars := ["loop.example/g00931/impl.errSize", "loop.example/g00931/impl.errLength", "loop.example/g00931/impl.errBlank", "loop.example/g00931/impl.errBorder", "loop.example/g00931/impl.errInner"], fn := fun _ => fun
  | [d, g1, g2, g3, g4, g5] => { results := [.lit (.bool true)], args := [d], vars := [g1, g2, g3, g4, g5] }
  | _ => none }
def fnExactReadPictureRow : OpenClaim := { program := "ytocnocchliihhaadoor", sum := "9a313a013c9a33b5b3611254d01a333b406d5255bb4329b61f7a49a6522494f0", func := "loop.example/g00931/laws.FnExactReadPicture", spec := "fnExactReadPicture", named := ["loop.example/g00931/impl.errSize", "loop.example/g00931/impl.errLength", "loop.example/g00931/impl.errBlank", "loop.example/g00931/impl.errBorder", "loop.example/g00931/impl.errInner"], ifaces := true, plainKeys := false, apart := false, laid := [("loop.example/g00931/impl.errSize", laid_loop_example_g00931_impl_errSize), ("loop.example/g00931/impl.errLength", laid_loop_example_g00931_impl_errLength), ("loop.example/g00931/impl.errInner", laid_loop_example_g00931_impl_errInner), ("loop.example/g00931/impl.errBorder", laid_loop_example_g00931_impl_errBorder), ("loop.example/g00931/impl.errBlank", laid_loop_example_g00931_impl_errBlank)] }
def FnExactReadPictureSaid : Prop := fnExactReadPictureRow.holds Tryd.pinned (OpenSpec.ofChange fnExactReadPictureSpec)

/-- ITS FALSE NEIGHBOUR: 'it returns false'. Refute it at one input. -/
def fnExactReadPictureWrong : ChangeSpec := { name := "fnExactReadPicture", vars := ["loop.example/g00931/impl.errSize", "loop.example/g00931/impl.errLength", "loop.example/g00931/impl.errBlank", "loop.example/g00931/impl.errBorder", "loop.example/g00931/impl.errInner"], fn := fun _ => fun
  | [d, g1, g2, g3, g4, g5] => { results := [.lit (.bool false)], args := [d], vars := [g1, g2, g3, g4, g5] }
  | _ => none }
def FnExactReadPictureWrongFalsely : Prop := fnExactReadPictureRow.holds Tryd.pinned (OpenSpec.ofChange fnExactReadPictureWrong)

/-- 'laws.FnExactCurvePicture': WHATEVER THE INPUT: true; the input reads as it did. -/
def fnExactCurvePictureSpec : ChangeSpec := { name := "fnExactCurvePicture", vars := ["loop.example/g00931/impl.turns"], fn := fun _ => fun
  | [d1, d2, g1] => { results := [.lit (.bool true)], args := [d1, d2], vars := [g1] }
  | _ => none }
def fnExactCurvePictureRow : OpenClaim := { program := "ytocnocchliihhaadoor", sum := "9a313a013c9a33b5b3611254d01a333b406d5255bb4329b61f7a49a6522494f0", func := "loop.example/g00931/laws.FnExactCurvePicture", spec := "fnExactCurvePicture", inPlace := ["internal/abi.NoEscape"], unfollowed := true, recurses := true, named := ["loop.example/g00931/impl.turns"], plainKeys := false, apart := false, laid := [("loop.example/g00931/impl.turns", laid_loop_example_g00931_impl_turns)] }
def FnExactCurvePictureSaid : Prop := fnExactCurvePictureRow.holds Tryd.pinned (OpenSpec.ofChange fnExactCurvePictureSpec)

/-- ITS FALSE NEIGHBOUR: 'it returns false'. Refute it at one input. -/
def fnExactCurvePictureWrong : ChangeSpec := { name := "fnExactCurvePicture", vars := ["loop.example/g00931/impl.turns"], fn := fun _ => fun
  | [d1, d2, g1] => { results := [.lit (.bool false)], args := [d1, d2], vars := [g1] }
  | _ => none }
def FnExactCurvePictureWrongFalsely : Prop := fnExactCurvePictureRow.holds Tryd.pinned (OpenSpec.ofChange fnExactCurvePictureWrong)

/-- 'laws.FnExactPanelText': WHATEVER THE INPUT: true; the input reads as it did. -/
def fnExactPanelTextSpec : ChangeSpec := { name := "fnExactPanelText", fn := fun _ => fun
  | [d] => { results := [.lit (.bool true)], args := [d] }
  | _ => none }
def fnExactPanelTextRow : OpenClaim := { program := "ytocnocchliihhaadoor", sum := "9a313a013c9a33b5b3611254d01a333b406d5255bb4329b61f7a49a6522494f0", func := "loop.example/g00931/laws.FnExactPanelText", spec := "fnExactPanelText", inPlace := ["internal/abi.NoEscape"], named := ["internal/strconv.uint64pow10", "math/bits.deBruijn32tab", "math/bits.deBruijn64tab"], plainKeys := false, apart := false, laid := [("math/bits.deBruijn32tab", laid_math_bits_deBruijn32tab), ("math/bits.deBruijn64tab", laid_math_bits_deBruijn64tab), ("internal/strconv.uint64pow10", laid_internal_strconv_uint64pow10)] }
def FnExactPanelTextSaid : Prop := fnExactPanelTextRow.holds Tryd.pinned (OpenSpec.ofChange fnExactPanelTextSpec)

/-- ITS FALSE NEIGHBOUR: 'it returns false'. Refute it at one input. -/
def fnExactPanelTextWrong : ChangeSpec := { name := "fnExactPanelText", fn := fun _ => fun
  | [d] => { results := [.lit (.bool false)], args := [d] }
  | _ => none }
def FnExactPanelTextWrongFalsely : Prop := fnExactPanelTextRow.holds Tryd.pinned (OpenSpec.ofChange fnExactPanelTextWrong)

/-- 'laws.FnExactReadPanel': WHATEVER THE INPUT: true; the input reads as it did. -/
def fnExactReadPanelSpec : ChangeSpec := { name := "fnExactReadPanel", fn := fun _ => fun
  | [d] => { results := [.lit (.bool true)], args := [d] }
  | _ => none }
def fnExactReadPanelRow : OpenClaim := { program := "ytocnocchliihhaadoor", sum := "9a313a013c9a33b5b3611254d01a333b406d5255bb4329b61f7a49a6522494f0", func := "loop.example/g00931/laws.FnExactReadPanel", spec := "fnExactReadPanel", inPlace := ["internal/bytealg.IndexByte"], named := ["strconv.ErrSyntax", "strconv.ErrRange", "internal/strconv.uint64pow10", "math/bits.deBruijn32tab", "math/bits.deBruijn64tab"], plainKeys := false, apart := false, laid := [("math/bits.deBruijn32tab", laid_math_bits_deBruijn32tab), ("math/bits.deBruijn64tab", laid_math_bits_deBruijn64tab), ("internal/strconv.uint64pow10", laid_internal_strconv_uint64pow10), ("strconv.ErrRange", laid_strconv_ErrRange), ("strconv.ErrSyntax", laid_strconv_ErrSyntax)] }
def FnExactReadPanelSaid : Prop := fnExactReadPanelRow.holds Tryd.pinned (OpenSpec.ofChange fnExactReadPanelSpec)

/-- ITS FALSE NEIGHBOUR: 'it returns false'. Refute it at one input. -/
def fnExactReadPanelWrong : ChangeSpec := { name := "fnExactReadPanel", fn := fun _ => fun
  | [d] => { results := [.lit (.bool false)], args := [d] }
  | _ => none }
def FnExactReadPanelWrongFalsely : Prop := fnExactReadPanelRow.holds Tryd.pinned (OpenSpec.ofChange fnExactReadPanelWrong)

/- THE SECOND FORM. 'bulk': how many values and letters a reading holds, each counted each time it is reached (what is shared counts as often as it is met; a slice's spare places count too). A statement '..UptoSaid' is the law's where the arguments, and the package variables that the reading takes, are together of bulk at most 1048576: NARROWER than '..Said'. Prove '..Said' where nothing that the law and all that it calls make is longer than what came in: it says more and counts as full. Else prove '..UptoSaid'. A law counts once. -/
mutual
def uptoBulk {H : Type} : DataW H → Nat
  | .lit (.string bytes) => bytes.length + 1
  | .lit _ => 1
  | .nil => 1
  | .ptr d => uptoBulk d + 1
  | .slice elems spare => uptoBulkAll elems + uptoBulkAll spare + 1
  | .agg parts => uptoBulkAll parts + 1
  | .iface _ d => uptoBulk d + 1
  | .map entries => uptoBulkEntries entries + 1
  | .held _ => 1
def uptoBulkAll {H : Type} : List (DataW H) → Nat
  | [] => 0
  | d :: r => uptoBulk d + uptoBulkAll r
def uptoBulkEntries {H : Type} : List (Lit × DataW H) → Nat
  | [] => 0
  | x :: r => uptoBulkEntry x + uptoBulkEntries r
def uptoBulkEntry {H : Type} : Lit × DataW H → Nat
  | (.string bytes, d) => bytes.length + uptoBulk d + 1
  | (_, d) => uptoBulk d + 1
 end
def uptoSmall : (H : Type) → List (DataW H) → Bool := fun _ ds => decide (uptoBulkAll ds ≤ 1048576)
def OpenSpec.upto (s : _root_.Go.ChangeSpec) : _root_.Go.OpenSpec := { _root_.Go.OpenSpec.ofChange s with cond := some uptoSmall }

/-- 'laws.FnCurvePictures', WHERE WHAT IT READS IS OF BULK AT MOST 1048576: true; the input reads as it did. -/
def fnCurvePicturesUptoRow : OpenClaim := { program := "ytocnocchliihhaadoor", sum := "9a313a013c9a33b5b3611254d01a333b406d5255bb4329b61f7a49a6522494f0", func := "loop.example/g00931/laws.FnCurvePictures", spec := "fnCurvePictures", inPlace := ["internal/abi.NoEscape"], unfollowed := true, recurses := true, named := ["loop.example/g00931/impl.turns", "loop.example/g00931/impl.pictureFaultNames"], plainKeys := false, apart := false, laid := [("loop.example/g00931/impl.turns", laid_loop_example_g00931_impl_turns), ("loop.example/g00931/impl.pictureFaultNames", laid_loop_example_g00931_impl_pictureFaultNames)], narrowed := true }
def FnCurvePicturesUptoSaid : Prop := fnCurvePicturesUptoRow.holds Tryd.pinned (OpenSpec.upto fnCurvePicturesSpec)

/-- 'laws.FnExactPictureFault', WHERE WHAT IT READS IS OF BULK AT MOST 1048576: true; the input reads as it did. -/
def fnExactPictureFaultUptoRow : OpenClaim := { program := "ytocnocchliihhaadoor", sum := "9a313a013c9a33b5b3611254d01a333b406d5255bb4329b61f7a49a6522494f0", func := "loop.example/g00931/laws.FnExactPictureFault", spec := "fnExactPictureFault", inPlace := ["internal/reflectlite.ValueOf", "(internal/reflectlite.Value).Type", "(internal/reflectlite.Value).IsNil", "internal/reflectlite.TypeOf", "(internal/reflectlite.Value).Elem", "(internal/reflectlite.Value).Set"], unfollowed := true, recurses := true, named := ["loop.example/g00931/impl.errSize", "loop.example/g00931/impl.errLength", "loop.example/g00931/impl.errBlank", "loop.example/g00931/impl.errBorder", "loop.example/g00931/impl.errInner", "errors.errorType"], ifaces := true, plainKeys := false, apart := false, laid := [("errors.errorType", laid_errors_errorType), ("loop.example/g00931/impl.errSize", laid_loop_example_g00931_impl_errSize), ("loop.example/g00931/impl.errLength", laid_loop_example_g00931_impl_errLength), ("loop.example/g00931/impl.errInner", laid_loop_example_g00931_impl_errInner), ("loop.example/g00931/impl.errBorder", laid_loop_example_g00931_impl_errBorder), ("loop.example/g00931/impl.errBlank", laid_loop_example_g00931_impl_errBlank)], narrowed := true }
def FnExactPictureFaultUptoSaid : Prop := fnExactPictureFaultUptoRow.holds Tryd.pinned (OpenSpec.upto fnExactPictureFaultSpec)

/-- 'laws.FnExactPictureFaultName', WHERE WHAT IT READS IS OF BULK AT MOST 1048576: true; the input reads as it did. -/
def fnExactPictureFaultNameUptoRow : OpenClaim := { program := "ytocnocchliihhaadoor", sum := "9a313a013c9a33b5b3611254d01a333b406d5255bb4329b61f7a49a6522494f0", func := "loop.example/g00931/laws.FnExactPictureFaultName", spec := "fnExactPictureFaultName", named := ["loop.example/g00931/impl.pictureFaultNames"], plainKeys := false, apart := false, laid := [("loop.example/g00931/impl.pictureFaultNames", laid_loop_example_g00931_impl_pictureFaultNames)], narrowed := true }
def FnExactPictureFaultNameUptoSaid : Prop := fnExactPictureFaultNameUptoRow.holds Tryd.pinned (OpenSpec.upto fnExactPictureFaultNameSpec)

/-- 'laws.FnExactReadPicture', WHERE WHAT IT READS IS OF BULK AT MOST 1048576: true; the input reads as it did. -/
def fnExactReadPictureUptoRow : OpenClaim := { program := "ytocnocchliihhaadoor", sum := "9a313a013c9a33b5b3611254d01a333b406d5255bb4329b61f7a49a6522494f0", func := "loop.example/g00931/laws.FnExactReadPicture", spec := "fnExactReadPicture", named := ["loop.example/g00931/impl.errSize", "loop.example/g00931/impl.errLength", "loop.example/g00931/impl.errBlank", "loop.example/g00931/impl.errBorder", "loop.example/g00931/impl.errInner"], ifaces := true, plainKeys := false, apart := false, laid := [("loop.example/g00931/impl.errSize", laid_loop_example_g00931_impl_errSize), ("loop.example/g00931/impl.errLength", laid_loop_example_g00931_impl_errLength), ("loop.example/g00931/impl.errInner", laid_loop_example_g00931_impl_errInner), ("loop.example/g00931/impl.errBorder", laid_loop_example_g00931_impl_errBorder), ("loop.example/g00931/impl.errBlank", laid_loop_example_g00931_impl_errBlank)], narrowed := true }
def FnExactReadPictureUptoSaid : Prop := fnExactReadPictureUptoRow.holds Tryd.pinned (OpenSpec.upto fnExactReadPictureSpec)

/-- 'laws.FnExactCurvePicture', WHERE WHAT IT READS IS OF BULK AT MOST 1048576: true; the input reads as it did. -/
def fnExactCurvePictureUptoRow : OpenClaim := { program := "ytocnocchliihhaadoor", sum := "9a313a013c9a33b5b3611254d01a333b406d5255bb4329b61f7a49a6522494f0", func := "loop.example/g00931/laws.FnExactCurvePicture", spec := "fnExactCurvePicture", inPlace := ["internal/abi.NoEscape"], unfollowed := true, recurses := true, named := ["loop.example/g00931/impl.turns"], plainKeys := false, apart := false, laid := [("loop.example/g00931/impl.turns", laid_loop_example_g00931_impl_turns)], narrowed := true }
def FnExactCurvePictureUptoSaid : Prop := fnExactCurvePictureUptoRow.holds Tryd.pinned (OpenSpec.upto fnExactCurvePictureSpec)

/-- 'laws.FnExactPanelText', WHERE WHAT IT READS IS OF BULK AT MOST 1048576: true; the input reads as it did. -/
def fnExactPanelTextUptoRow : OpenClaim := { program := "ytocnocchliihhaadoor", sum := "9a313a013c9a33b5b3611254d01a333b406d5255bb4329b61f7a49a6522494f0", func := "loop.example/g00931/laws.FnExactPanelText", spec := "fnExactPanelText", inPlace := ["internal/abi.NoEscape"], named := ["internal/strconv.uint64pow10", "math/bits.deBruijn32tab", "math/bits.deBruijn64tab"], plainKeys := false, apart := false, laid := [("math/bits.deBruijn32tab", laid_math_bits_deBruijn32tab), ("math/bits.deBruijn64tab", laid_math_bits_deBruijn64tab), ("internal/strconv.uint64pow10", laid_internal_strconv_uint64pow10)], narrowed := true }
def FnExactPanelTextUptoSaid : Prop := fnExactPanelTextUptoRow.holds Tryd.pinned (OpenSpec.upto fnExactPanelTextSpec)

/-- 'laws.FnExactReadPanel', WHERE WHAT IT READS IS OF BULK AT MOST 1048576: true; the input reads as it did. -/
def fnExactReadPanelUptoRow : OpenClaim := { program := "ytocnocchliihhaadoor", sum := "9a313a013c9a33b5b3611254d01a333b406d5255bb4329b61f7a49a6522494f0", func := "loop.example/g00931/laws.FnExactReadPanel", spec := "fnExactReadPanel", inPlace := ["internal/bytealg.IndexByte"], named := ["strconv.ErrSyntax", "strconv.ErrRange", "internal/strconv.uint64pow10", "math/bits.deBruijn32tab", "math/bits.deBruijn64tab"], plainKeys := false, apart := false, laid := [("math/bits.deBruijn32tab", laid_math_bits_deBruijn32tab), ("math/bits.deBruijn64tab", laid_math_bits_deBruijn64tab), ("internal/strconv.uint64pow10", laid_internal_strconv_uint64pow10), ("strconv.ErrRange", laid_strconv_ErrRange), ("strconv.ErrSyntax", laid_strconv_ErrSyntax)], narrowed := true }
def FnExactReadPanelUptoSaid : Prop := fnExactReadPanelUptoRow.holds Tryd.pinned (OpenSpec.upto fnExactReadPanelSpec)

end Rows
end Go.Proofs.YtocnocchliihhaaDoor
