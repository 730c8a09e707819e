/-
  DERIVED. GIVEN WITH THE SEED: THE PROGRAM's TIES (one call each: nine closed facts by the kernel) AND EACH ROW's TIE, after the 31st guide's Derived/Test/Toyas{Tie, Card}.lean. No idea stands in it: it is a product of the set-up. Laid BY PROGRAM, IN A SANDBOX (cutbox-door.mjs). By AI agents, Wed Nov 11 2026. No macro, syntax, notation, axiom, sorry.
-/
import Derived.Test.YtdofeonkgaceeabDoorRows
import Derived.LaidByTextLater
import Derived.SevenTiedAt
import Derived.LaidSub
import Derived.LaidOnce
namespace Go.Proofs.YtdofeonkgaceeabDoor
open Go
set_option maxRecDepth 100000
theorem seatTie1 : Tryd.prog.laidByTextLater [("loop.example/g00931/impl.turns", Rows.laid_loop_example_g00931_impl_turns), ("loop.example/g00931/impl.directions", Rows.laid_loop_example_g00931_impl_directions), ("loop.example/g00931/impl.pictureFaultNames", Rows.laid_loop_example_g00931_impl_pictureFaultNames)] [.data, .data, .data] true :=
  Program.laidByTextLater_by_one 31 8 9 (by kernel_rfl) (by kernel_rfl) (by kernel_rfl) (by kernel_rfl) (by kernel_rfl) (by kernel_rfl) (fun _ _ => by kernel_rfl)
theorem noOwnUnsafe : Tryd.pinned.checked.prog.headLifts.contains "ownunsafe" = false := by kernel_rfl
theorem tie : Tryd.prog.laidByTextLater [("loop.example/g00931/impl.turns", Rows.laid_loop_example_g00931_impl_turns)] [.data] true :=
  Program.laidByTextLater.sub seatTie1 ["loop.example/g00931/impl.turns"] (by kernel_rfl) (by kernel_rfl)
theorem fnExactCountCurves_row_tie : Rows.fnExactCountCurvesRow.laidByTextAt .later Tryd.pinned [.data] true :=
  OpenClaim.laidByTextAt_later rfl rfl tie noOwnUnsafe
theorem fnExactCurveAt_row_tie : Rows.fnExactCurveAtRow.laidByTextAt .later Tryd.pinned [.data] true :=
  OpenClaim.laidByTextAt_later rfl rfl tie noOwnUnsafe
theorem fnExactCurveLengths_row_tie : Rows.fnExactCurveLengthsRow.laidByTextAt .later Tryd.pinned [.data] true :=
  OpenClaim.laidByTextAt_later rfl rfl tie noOwnUnsafe
theorem fnExactSegmentCurves_row_tie : Rows.fnExactSegmentCurvesRow.laidByTextAt .later Tryd.pinned [.data] true :=
  OpenClaim.laidByTextAt_later rfl rfl tie noOwnUnsafe
theorem fnExactIsSingle_row_tie : Rows.fnExactIsSingleRow.laidByTextAt .later Tryd.pinned [.data] true :=
  OpenClaim.laidByTextAt_later rfl rfl tie noOwnUnsafe
theorem fnExactTouchesOf_row_tie : Rows.fnExactTouchesOfRow.laidByTextAt .later Tryd.pinned [.data] true :=
  OpenClaim.laidByTextAt_later rfl rfl tie noOwnUnsafe
theorem fnExactCurvePicture_row_tie : Rows.fnExactCurvePictureRow.laidByTextAt .later Tryd.pinned [.data] true :=
  OpenClaim.laidByTextAt_later rfl rfl tie noOwnUnsafe
theorem tie2 : Tryd.prog.laidByTextLater [("loop.example/g00931/impl.turns", Rows.laid_loop_example_g00931_impl_turns), ("loop.example/g00931/impl.directions", Rows.laid_loop_example_g00931_impl_directions)] [.data, .data] true :=
  Program.laidByTextLater.sub seatTie1 ["loop.example/g00931/impl.turns", "loop.example/g00931/impl.directions"] (by kernel_rfl) (by kernel_rfl)
theorem fnExactCurvesThrough_row_tie : Rows.fnExactCurvesThroughRow.laidByTextAt .later Tryd.pinned [.data, .data] true :=
  OpenClaim.laidByTextAt_later rfl rfl tie2 noOwnUnsafe
theorem fnExactSelfCrossings_row_tie : Rows.fnExactSelfCrossingsRow.laidByTextAt .later Tryd.pinned [.data, .data] true :=
  OpenClaim.laidByTextAt_later rfl rfl tie2 noOwnUnsafe
theorem fnExactCommonCrossings_row_tie : Rows.fnExactCommonCrossingsRow.laidByTextAt .later Tryd.pinned [.data, .data] true :=
  OpenClaim.laidByTextAt_later rfl rfl tie2 noOwnUnsafe
theorem fnMeetings_row_tie : Rows.fnMeetingsRow.laidByTextAt .later Tryd.pinned [.data, .data] true :=
  OpenClaim.laidByTextAt_later rfl rfl tie2 noOwnUnsafe
theorem tie3 : Tryd.prog.laidByTextLater [("loop.example/g00931/impl.turns", Rows.laid_loop_example_g00931_impl_turns), ("loop.example/g00931/impl.pictureFaultNames", Rows.laid_loop_example_g00931_impl_pictureFaultNames)] [.data, .data] true :=
  Program.laidByTextLater.sub seatTie1 ["loop.example/g00931/impl.turns", "loop.example/g00931/impl.pictureFaultNames"] (by kernel_rfl) (by kernel_rfl)
theorem fnCurvePictures_row_tie : Rows.fnCurvePicturesRow.laidByTextAt .later Tryd.pinned [.data, .data] true :=
  OpenClaim.laidByTextAt_later rfl rfl tie3 noOwnUnsafe
theorem fnExactCountCurvesUpto_row_tie : Rows.fnExactCountCurvesUptoRow.laidByTextAt .later Tryd.pinned [.data] true :=
  OpenClaim.laidByTextAt_later rfl rfl tie noOwnUnsafe
theorem fnExactCurveAtUpto_row_tie : Rows.fnExactCurveAtUptoRow.laidByTextAt .later Tryd.pinned [.data] true :=
  OpenClaim.laidByTextAt_later rfl rfl tie noOwnUnsafe
theorem fnExactCurveLengthsUpto_row_tie : Rows.fnExactCurveLengthsUptoRow.laidByTextAt .later Tryd.pinned [.data] true :=
  OpenClaim.laidByTextAt_later rfl rfl tie noOwnUnsafe
theorem fnExactSegmentCurvesUpto_row_tie : Rows.fnExactSegmentCurvesUptoRow.laidByTextAt .later Tryd.pinned [.data] true :=
  OpenClaim.laidByTextAt_later rfl rfl tie noOwnUnsafe
theorem fnExactCurvesThroughUpto_row_tie : Rows.fnExactCurvesThroughUptoRow.laidByTextAt .later Tryd.pinned [.data, .data] true :=
  OpenClaim.laidByTextAt_later rfl rfl tie2 noOwnUnsafe
theorem fnExactSelfCrossingsUpto_row_tie : Rows.fnExactSelfCrossingsUptoRow.laidByTextAt .later Tryd.pinned [.data, .data] true :=
  OpenClaim.laidByTextAt_later rfl rfl tie2 noOwnUnsafe
theorem fnExactCommonCrossingsUpto_row_tie : Rows.fnExactCommonCrossingsUptoRow.laidByTextAt .later Tryd.pinned [.data, .data] true :=
  OpenClaim.laidByTextAt_later rfl rfl tie2 noOwnUnsafe
theorem fnExactIsSingleUpto_row_tie : Rows.fnExactIsSingleUptoRow.laidByTextAt .later Tryd.pinned [.data] true :=
  OpenClaim.laidByTextAt_later rfl rfl tie noOwnUnsafe
theorem fnExactTouchesOfUpto_row_tie : Rows.fnExactTouchesOfUptoRow.laidByTextAt .later Tryd.pinned [.data] true :=
  OpenClaim.laidByTextAt_later rfl rfl tie noOwnUnsafe
theorem fnMeetingsUpto_row_tie : Rows.fnMeetingsUptoRow.laidByTextAt .later Tryd.pinned [.data, .data] true :=
  OpenClaim.laidByTextAt_later rfl rfl tie2 noOwnUnsafe
theorem fnExactCurvePictureUpto_row_tie : Rows.fnExactCurvePictureUptoRow.laidByTextAt .later Tryd.pinned [.data] true :=
  OpenClaim.laidByTextAt_later rfl rfl tie noOwnUnsafe
theorem fnCurvePicturesUpto_row_tie : Rows.fnCurvePicturesUptoRow.laidByTextAt .later Tryd.pinned [.data, .data] true :=
  OpenClaim.laidByTextAt_later rfl rfl tie3 noOwnUnsafe
end Go.Proofs.YtdofeonkgaceeabDoor
