/-
  DERIVED. GIVEN WITH THE SEED: THE PROGRAM's TIES (one call each: nine closed facts by the kernel) AND EACH ROW's TIE, after the 31st guide's Derived/Test/Toyas{Tie, Card}.lean. No idea stands in it: it is a product of the set-up. Laid BY PROGRAM, IN A SANDBOX (cutbox-door.mjs). By AI agents, Wed Nov 11 2026. No macro, syntax, notation, axiom, sorry.
-/
import Derived.Test.YtdofeonkgaceeacDoorRows
import Derived.LaidByTextLater
import Derived.SevenTiedAt
import Derived.LaidSub
import Derived.LaidOnce
namespace Go.Proofs.YtdofeonkgaceeacDoor
open Go
set_option maxRecDepth 100000
theorem seatTie1 : Tryd.prog.laidByTextLater [("errors.errorType", Rows.laid_errors_errorType), ("loop.example/g00931/impl.turns", Rows.laid_loop_example_g00931_impl_turns), ("loop.example/g00931/impl.errSize", Rows.laid_loop_example_g00931_impl_errSize), ("loop.example/g00931/impl.errLength", Rows.laid_loop_example_g00931_impl_errLength), ("loop.example/g00931/impl.errInner", Rows.laid_loop_example_g00931_impl_errInner), ("loop.example/g00931/impl.errBorder", Rows.laid_loop_example_g00931_impl_errBorder), ("loop.example/g00931/impl.errBlank", Rows.laid_loop_example_g00931_impl_errBlank), ("loop.example/g00931/impl.symNames", Rows.laid_loop_example_g00931_impl_symNames), ("loop.example/g00931/impl.exchangedBreaks", Rows.laid_loop_example_g00931_impl_exchangedBreaks)] [.handle, .data, .sentinel, .sentinel, .sentinel, .sentinel, .sentinel, .data, .data] true :=
  Program.laidByTextLater_by_one 129 8 9 (by kernel_rfl) (by kernel_rfl) (by kernel_rfl) (by kernel_rfl) (by kernel_rfl) (by kernel_rfl) (fun _ _ => by kernel_rfl)
theorem noOwnUnsafe : Tryd.pinned.checked.prog.headLifts.contains "ownunsafe" = false := by kernel_rfl
theorem tie : Tryd.prog.laidByTextLater [("loop.example/g00931/impl.symNames", Rows.laid_loop_example_g00931_impl_symNames)] [.data] true :=
  Program.laidByTextLater.sub seatTie1 ["loop.example/g00931/impl.symNames"] (by kernel_rfl) (by kernel_rfl)
theorem fnExactSymName_row_tie : Rows.fnExactSymNameRow.laidByTextAt .later Tryd.pinned [.data] true :=
  OpenClaim.laidByTextAt_later rfl rfl tie noOwnUnsafe
theorem tie2 : Tryd.prog.laidByTextLater [("errors.errorType", Rows.laid_errors_errorType), ("loop.example/g00931/impl.errSize", Rows.laid_loop_example_g00931_impl_errSize), ("loop.example/g00931/impl.errLength", Rows.laid_loop_example_g00931_impl_errLength), ("loop.example/g00931/impl.errInner", Rows.laid_loop_example_g00931_impl_errInner), ("loop.example/g00931/impl.errBorder", Rows.laid_loop_example_g00931_impl_errBorder), ("loop.example/g00931/impl.errBlank", Rows.laid_loop_example_g00931_impl_errBlank)] [.handle, .sentinel, .sentinel, .sentinel, .sentinel, .sentinel] true :=
  Program.laidByTextLater.sub seatTie1 ["errors.errorType", "loop.example/g00931/impl.errSize", "loop.example/g00931/impl.errLength", "loop.example/g00931/impl.errInner", "loop.example/g00931/impl.errBorder", "loop.example/g00931/impl.errBlank"] (by kernel_rfl) (by kernel_rfl)
theorem fnExactPictureFault_row_tie : Rows.fnExactPictureFaultRow.laidByTextAt .later Tryd.pinned [.handle, .sentinel, .sentinel, .sentinel, .sentinel, .sentinel] true :=
  OpenClaim.laidByTextAt_later rfl rfl tie2 noOwnUnsafe
theorem tie3 : Tryd.prog.laidByTextLater [("loop.example/g00931/impl.errSize", Rows.laid_loop_example_g00931_impl_errSize), ("loop.example/g00931/impl.errLength", Rows.laid_loop_example_g00931_impl_errLength), ("loop.example/g00931/impl.errInner", Rows.laid_loop_example_g00931_impl_errInner), ("loop.example/g00931/impl.errBorder", Rows.laid_loop_example_g00931_impl_errBorder), ("loop.example/g00931/impl.errBlank", Rows.laid_loop_example_g00931_impl_errBlank)] [.sentinel, .sentinel, .sentinel, .sentinel, .sentinel] true :=
  Program.laidByTextLater.sub seatTie1 ["loop.example/g00931/impl.errSize", "loop.example/g00931/impl.errLength", "loop.example/g00931/impl.errInner", "loop.example/g00931/impl.errBorder", "loop.example/g00931/impl.errBlank"] (by kernel_rfl) (by kernel_rfl)
theorem fnExactReadPicture_row_tie : Rows.fnExactReadPictureRow.laidByTextAt .later Tryd.pinned [.sentinel, .sentinel, .sentinel, .sentinel, .sentinel] true :=
  OpenClaim.laidByTextAt_later rfl rfl tie3 noOwnUnsafe
theorem tie4 : Tryd.prog.laidByTextLater [("loop.example/g00931/impl.turns", Rows.laid_loop_example_g00931_impl_turns), ("loop.example/g00931/impl.symNames", Rows.laid_loop_example_g00931_impl_symNames), ("loop.example/g00931/impl.exchangedBreaks", Rows.laid_loop_example_g00931_impl_exchangedBreaks)] [.data, .data, .data] true :=
  Program.laidByTextLater.sub seatTie1 ["loop.example/g00931/impl.turns", "loop.example/g00931/impl.symNames", "loop.example/g00931/impl.exchangedBreaks"] (by kernel_rfl) (by kernel_rfl)
theorem fnSymmetries_row_tie : Rows.fnSymmetriesRow.laidByTextAt .later Tryd.pinned [.data, .data, .data] true :=
  OpenClaim.laidByTextAt_later rfl rfl tie4 noOwnUnsafe
theorem fnExactSymNameUpto_row_tie : Rows.fnExactSymNameUptoRow.laidByTextAt .later Tryd.pinned [.data] true :=
  OpenClaim.laidByTextAt_later rfl rfl tie noOwnUnsafe
theorem fnExactPictureFaultUpto_row_tie : Rows.fnExactPictureFaultUptoRow.laidByTextAt .later Tryd.pinned [.handle, .sentinel, .sentinel, .sentinel, .sentinel, .sentinel] true :=
  OpenClaim.laidByTextAt_later rfl rfl tie2 noOwnUnsafe
theorem fnExactReadPictureUpto_row_tie : Rows.fnExactReadPictureUptoRow.laidByTextAt .later Tryd.pinned [.sentinel, .sentinel, .sentinel, .sentinel, .sentinel] true :=
  OpenClaim.laidByTextAt_later rfl rfl tie3 noOwnUnsafe
theorem fnSymmetriesUpto_row_tie : Rows.fnSymmetriesUptoRow.laidByTextAt .later Tryd.pinned [.data, .data, .data] true :=
  OpenClaim.laidByTextAt_later rfl rfl tie4 noOwnUnsafe
end Go.Proofs.YtdofeonkgaceeacDoor
