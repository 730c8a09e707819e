/-
  DERIVED. GIVEN WITH THE SEED: THE PROGRAM's TIES (one call each: nine closed facts by the kernel) AND EACH ROW's TIE, after the 31st guide's Derived/Test/Toyas{Tie, Card}.lean. No idea stands in it: it is a product of the set-up. Laid BY PROGRAM, IN A SANDBOX (cutbox-door.mjs). By AI agents, Wed Nov 11 2026. No macro, syntax, notation, axiom, sorry.
-/
import Derived.Test.YtocnocchliihhaaDoorRows
import Derived.LaidByTextLater
import Derived.SevenTiedAt
import Derived.LaidSub
import Derived.LaidOnce
namespace Go.Proofs.YtocnocchliihhaaDoor
open Go
set_option maxRecDepth 100000
theorem seatTie1 : Tryd.prog.laidByTextLater [("math/bits.deBruijn32tab", Rows.laid_math_bits_deBruijn32tab), ("math/bits.deBruijn64tab", Rows.laid_math_bits_deBruijn64tab), ("internal/strconv.uint64pow10", Rows.laid_internal_strconv_uint64pow10), ("errors.errorType", Rows.laid_errors_errorType), ("strconv.ErrRange", Rows.laid_strconv_ErrRange), ("strconv.ErrSyntax", Rows.laid_strconv_ErrSyntax), ("loop.example/g00931/impl.turns", Rows.laid_loop_example_g00931_impl_turns), ("loop.example/g00931/impl.pictureFaultNames", Rows.laid_loop_example_g00931_impl_pictureFaultNames), ("loop.example/g00931/impl.errSize", Rows.laid_loop_example_g00931_impl_errSize), ("loop.example/g00931/impl.errLength", Rows.laid_loop_example_g00931_impl_errLength), ("loop.example/g00931/impl.errInner", Rows.laid_loop_example_g00931_impl_errInner), ("loop.example/g00931/impl.errBorder", Rows.laid_loop_example_g00931_impl_errBorder), ("loop.example/g00931/impl.errBlank", Rows.laid_loop_example_g00931_impl_errBlank)] [.data, .data, .data, .handle, .sentinel, .sentinel, .data, .data, .sentinel, .sentinel, .sentinel, .sentinel, .sentinel] true :=
  Program.laidByTextLater_by_one 177 8 65 (by kernel_rfl) (by kernel_rfl) (by kernel_rfl) (by kernel_rfl) (by kernel_rfl) (by kernel_rfl) (fun _ _ => by kernel_rfl)
theorem noOwnUnsafe : Tryd.pinned.checked.prog.headLifts.contains "ownunsafe" = false := by kernel_rfl
theorem tie : Tryd.prog.laidByTextLater [("loop.example/g00931/impl.turns", Rows.laid_loop_example_g00931_impl_turns), ("loop.example/g00931/impl.pictureFaultNames", Rows.laid_loop_example_g00931_impl_pictureFaultNames)] [.data, .data] true :=
  Program.laidByTextLater.sub seatTie1 ["loop.example/g00931/impl.turns", "loop.example/g00931/impl.pictureFaultNames"] (by kernel_rfl) (by kernel_rfl)
theorem fnCurvePictures_row_tie : Rows.fnCurvePicturesRow.laidByTextAt .later Tryd.pinned [.data, .data] true :=
  OpenClaim.laidByTextAt_later rfl rfl tie noOwnUnsafe
theorem tie2 : Tryd.prog.laidByTextLater [("errors.errorType", Rows.laid_errors_errorType), ("loop.example/g00931/impl.errSize", Rows.laid_loop_example_g00931_impl_errSize), ("loop.example/g00931/impl.errLength", Rows.laid_loop_example_g00931_impl_errLength), ("loop.example/g00931/impl.errInner", Rows.laid_loop_example_g00931_impl_errInner), ("loop.example/g00931/impl.errBorder", Rows.laid_loop_example_g00931_impl_errBorder), ("loop.example/g00931/impl.errBlank", Rows.laid_loop_example_g00931_impl_errBlank)] [.handle, .sentinel, .sentinel, .sentinel, .sentinel, .sentinel] true :=
  Program.laidByTextLater.sub seatTie1 ["errors.errorType", "loop.example/g00931/impl.errSize", "loop.example/g00931/impl.errLength", "loop.example/g00931/impl.errInner", "loop.example/g00931/impl.errBorder", "loop.example/g00931/impl.errBlank"] (by kernel_rfl) (by kernel_rfl)
theorem fnExactPictureFault_row_tie : Rows.fnExactPictureFaultRow.laidByTextAt .later Tryd.pinned [.handle, .sentinel, .sentinel, .sentinel, .sentinel, .sentinel] true :=
  OpenClaim.laidByTextAt_later rfl rfl tie2 noOwnUnsafe
theorem tie3 : Tryd.prog.laidByTextLater [("loop.example/g00931/impl.pictureFaultNames", Rows.laid_loop_example_g00931_impl_pictureFaultNames)] [.data] true :=
  Program.laidByTextLater.sub seatTie1 ["loop.example/g00931/impl.pictureFaultNames"] (by kernel_rfl) (by kernel_rfl)
theorem fnExactPictureFaultName_row_tie : Rows.fnExactPictureFaultNameRow.laidByTextAt .later Tryd.pinned [.data] true :=
  OpenClaim.laidByTextAt_later rfl rfl tie3 noOwnUnsafe
theorem tie4 : Tryd.prog.laidByTextLater [("loop.example/g00931/impl.errSize", Rows.laid_loop_example_g00931_impl_errSize), ("loop.example/g00931/impl.errLength", Rows.laid_loop_example_g00931_impl_errLength), ("loop.example/g00931/impl.errInner", Rows.laid_loop_example_g00931_impl_errInner), ("loop.example/g00931/impl.errBorder", Rows.laid_loop_example_g00931_impl_errBorder), ("loop.example/g00931/impl.errBlank", Rows.laid_loop_example_g00931_impl_errBlank)] [.sentinel, .sentinel, .sentinel, .sentinel, .sentinel] true :=
  Program.laidByTextLater.sub seatTie1 ["loop.example/g00931/impl.errSize", "loop.example/g00931/impl.errLength", "loop.example/g00931/impl.errInner", "loop.example/g00931/impl.errBorder", "loop.example/g00931/impl.errBlank"] (by kernel_rfl) (by kernel_rfl)
theorem fnExactReadPicture_row_tie : Rows.fnExactReadPictureRow.laidByTextAt .later Tryd.pinned [.sentinel, .sentinel, .sentinel, .sentinel, .sentinel] true :=
  OpenClaim.laidByTextAt_later rfl rfl tie4 noOwnUnsafe
theorem tie5 : Tryd.prog.laidByTextLater [("loop.example/g00931/impl.turns", Rows.laid_loop_example_g00931_impl_turns)] [.data] true :=
  Program.laidByTextLater.sub seatTie1 ["loop.example/g00931/impl.turns"] (by kernel_rfl) (by kernel_rfl)
theorem fnExactCurvePicture_row_tie : Rows.fnExactCurvePictureRow.laidByTextAt .later Tryd.pinned [.data] true :=
  OpenClaim.laidByTextAt_later rfl rfl tie5 noOwnUnsafe
theorem tie6 : Tryd.prog.laidByTextLater [("math/bits.deBruijn32tab", Rows.laid_math_bits_deBruijn32tab), ("math/bits.deBruijn64tab", Rows.laid_math_bits_deBruijn64tab), ("internal/strconv.uint64pow10", Rows.laid_internal_strconv_uint64pow10)] [.data, .data, .data] true :=
  Program.laidByTextLater.sub seatTie1 ["math/bits.deBruijn32tab", "math/bits.deBruijn64tab", "internal/strconv.uint64pow10"] (by kernel_rfl) (by kernel_rfl)
theorem fnExactPanelText_row_tie : Rows.fnExactPanelTextRow.laidByTextAt .later Tryd.pinned [.data, .data, .data] true :=
  OpenClaim.laidByTextAt_later rfl rfl tie6 noOwnUnsafe
theorem tie7 : Tryd.prog.laidByTextLater [("math/bits.deBruijn32tab", Rows.laid_math_bits_deBruijn32tab), ("math/bits.deBruijn64tab", Rows.laid_math_bits_deBruijn64tab), ("internal/strconv.uint64pow10", Rows.laid_internal_strconv_uint64pow10), ("strconv.ErrRange", Rows.laid_strconv_ErrRange), ("strconv.ErrSyntax", Rows.laid_strconv_ErrSyntax)] [.data, .data, .data, .sentinel, .sentinel] true :=
  Program.laidByTextLater.sub seatTie1 ["math/bits.deBruijn32tab", "math/bits.deBruijn64tab", "internal/strconv.uint64pow10", "strconv.ErrRange", "strconv.ErrSyntax"] (by kernel_rfl) (by kernel_rfl)
theorem fnExactReadPanel_row_tie : Rows.fnExactReadPanelRow.laidByTextAt .later Tryd.pinned [.data, .data, .data, .sentinel, .sentinel] true :=
  OpenClaim.laidByTextAt_later rfl rfl tie7 noOwnUnsafe
theorem fnCurvePicturesUpto_row_tie : Rows.fnCurvePicturesUptoRow.laidByTextAt .later Tryd.pinned [.data, .data] true :=
  OpenClaim.laidByTextAt_later rfl rfl tie noOwnUnsafe
theorem fnExactPictureFaultUpto_row_tie : Rows.fnExactPictureFaultUptoRow.laidByTextAt .later Tryd.pinned [.handle, .sentinel, .sentinel, .sentinel, .sentinel, .sentinel] true :=
  OpenClaim.laidByTextAt_later rfl rfl tie2 noOwnUnsafe
theorem fnExactPictureFaultNameUpto_row_tie : Rows.fnExactPictureFaultNameUptoRow.laidByTextAt .later Tryd.pinned [.data] true :=
  OpenClaim.laidByTextAt_later rfl rfl tie3 noOwnUnsafe
theorem fnExactReadPictureUpto_row_tie : Rows.fnExactReadPictureUptoRow.laidByTextAt .later Tryd.pinned [.sentinel, .sentinel, .sentinel, .sentinel, .sentinel] true :=
  OpenClaim.laidByTextAt_later rfl rfl tie4 noOwnUnsafe
theorem fnExactCurvePictureUpto_row_tie : Rows.fnExactCurvePictureUptoRow.laidByTextAt .later Tryd.pinned [.data] true :=
  OpenClaim.laidByTextAt_later rfl rfl tie5 noOwnUnsafe
theorem fnExactPanelTextUpto_row_tie : Rows.fnExactPanelTextUptoRow.laidByTextAt .later Tryd.pinned [.data, .data, .data] true :=
  OpenClaim.laidByTextAt_later rfl rfl tie6 noOwnUnsafe
theorem fnExactReadPanelUpto_row_tie : Rows.fnExactReadPanelUptoRow.laidByTextAt .later Tryd.pinned [.data, .data, .data, .sentinel, .sentinel] true :=
  OpenClaim.laidByTextAt_later rfl rfl tie7 noOwnUnsafe
end Go.Proofs.YtocnocchliihhaaDoor
