/-
  DERIVED. GIVEN WITH THE SEED: THE PROGRAM's TIES (one call each: nine closed facts by the kernel) AND EACH ROW's TIE, after the 31st guide's Derived/Test/Toyas{Tie, Card}.lean. No idea stands in it: it is a product of the set-up. Laid BY PROGRAM, IN A SANDBOX (cutbox-door.mjs). By AI agents, Wed Nov 11 2026. No macro, syntax, notation, axiom, sorry.
-/
import Derived.Test.YtbpdjmjkjiddjaaDoorRows
import Derived.LaidByTextLater
import Derived.SevenTiedAt
import Derived.LaidSub
import Derived.LaidOnce
namespace Go.Proofs.YtbpdjmjkjiddjaaDoor
open Go
set_option maxRecDepth 100000
theorem seatTie1 : Tryd.prog.laidByTextLater [("math/bits.deBruijn32tab", Rows.laid_math_bits_deBruijn32tab), ("math/bits.deBruijn64tab", Rows.laid_math_bits_deBruijn64tab), ("internal/strconv.uint64pow10", Rows.laid_internal_strconv_uint64pow10), ("loop.example/g00931/impl.turns", Rows.laid_loop_example_g00931_impl_turns), ("loop.example/g00931/impl.directions", Rows.laid_loop_example_g00931_impl_directions), ("loop.example/g00931/impl.joinedDirections", Rows.laid_loop_example_g00931_impl_joinedDirections)] [.data, .data, .data, .data, .data, .data] true :=
  Program.laidByTextLater_by_one 55 8 65 (by kernel_rfl) (by kernel_rfl) (by kernel_rfl) (by kernel_rfl) (by kernel_rfl) (by kernel_rfl) (fun _ _ => by kernel_rfl)
theorem noOwnUnsafe : Tryd.pinned.checked.prog.headLifts.contains "ownunsafe" = false := by kernel_rfl
theorem tie : Tryd.prog.laidByTextLater [("math/bits.deBruijn32tab", Rows.laid_math_bits_deBruijn32tab), ("math/bits.deBruijn64tab", Rows.laid_math_bits_deBruijn64tab), ("internal/strconv.uint64pow10", Rows.laid_internal_strconv_uint64pow10)] [.data, .data, .data] true :=
  Program.laidByTextLater.sub seatTie1 ["math/bits.deBruijn32tab", "math/bits.deBruijn64tab", "internal/strconv.uint64pow10"] (by kernel_rfl) (by kernel_rfl)
theorem fnExactPassesText_row_tie : Rows.fnExactPassesTextRow.laidByTextAt .later Tryd.pinned [.data, .data, .data] true :=
  OpenClaim.laidByTextAt_later rfl rfl tie noOwnUnsafe
theorem tie2 : Tryd.prog.laidByTextLater [("loop.example/g00931/impl.turns", Rows.laid_loop_example_g00931_impl_turns)] [.data] true :=
  Program.laidByTextLater.sub seatTie1 ["loop.example/g00931/impl.turns"] (by kernel_rfl) (by kernel_rfl)
theorem fnExactPassesOf_row_tie : Rows.fnExactPassesOfRow.laidByTextAt .later Tryd.pinned [.data] true :=
  OpenClaim.laidByTextAt_later rfl rfl tie2 noOwnUnsafe
theorem fnExactCountOver_row_tie : Rows.fnExactCountOverRow.laidByTextAt .later Tryd.pinned [.data] true :=
  OpenClaim.laidByTextAt_later rfl rfl tie2 noOwnUnsafe
theorem fnCrossings_row_tie : Rows.fnCrossingsRow.laidByTextAt .later Tryd.pinned [.data] true :=
  OpenClaim.laidByTextAt_later rfl rfl tie2 noOwnUnsafe
theorem tie3 : Tryd.prog.laidByTextLater [("loop.example/g00931/impl.turns", Rows.laid_loop_example_g00931_impl_turns), ("loop.example/g00931/impl.directions", Rows.laid_loop_example_g00931_impl_directions)] [.data, .data] true :=
  Program.laidByTextLater.sub seatTie1 ["loop.example/g00931/impl.turns", "loop.example/g00931/impl.directions"] (by kernel_rfl) (by kernel_rfl)
theorem fnSharedPoints_row_tie : Rows.fnSharedPointsRow.laidByTextAt .later Tryd.pinned [.data, .data] true :=
  OpenClaim.laidByTextAt_later rfl rfl tie3 noOwnUnsafe
theorem tie4 : Tryd.prog.laidByTextLater [("loop.example/g00931/impl.directions", Rows.laid_loop_example_g00931_impl_directions), ("loop.example/g00931/impl.joinedDirections", Rows.laid_loop_example_g00931_impl_joinedDirections)] [.data, .data] true :=
  Program.laidByTextLater.sub seatTie1 ["loop.example/g00931/impl.directions", "loop.example/g00931/impl.joinedDirections"] (by kernel_rfl) (by kernel_rfl)
theorem fnExactFirstChange_row_tie : Rows.fnExactFirstChangeRow.laidByTextAt .later Tryd.pinned [.data, .data] true :=
  OpenClaim.laidByTextAt_later rfl rfl tie4 noOwnUnsafe
theorem fnExactPassesTextUpto_row_tie : Rows.fnExactPassesTextUptoRow.laidByTextAt .later Tryd.pinned [.data, .data, .data] true :=
  OpenClaim.laidByTextAt_later rfl rfl tie noOwnUnsafe
theorem fnExactPassesOfUpto_row_tie : Rows.fnExactPassesOfUptoRow.laidByTextAt .later Tryd.pinned [.data] true :=
  OpenClaim.laidByTextAt_later rfl rfl tie2 noOwnUnsafe
theorem fnExactCountOverUpto_row_tie : Rows.fnExactCountOverUptoRow.laidByTextAt .later Tryd.pinned [.data] true :=
  OpenClaim.laidByTextAt_later rfl rfl tie2 noOwnUnsafe
theorem fnSharedPointsUpto_row_tie : Rows.fnSharedPointsUptoRow.laidByTextAt .later Tryd.pinned [.data, .data] true :=
  OpenClaim.laidByTextAt_later rfl rfl tie3 noOwnUnsafe
theorem fnCrossingsUpto_row_tie : Rows.fnCrossingsUptoRow.laidByTextAt .later Tryd.pinned [.data] true :=
  OpenClaim.laidByTextAt_later rfl rfl tie2 noOwnUnsafe
theorem fnExactFirstChangeUpto_row_tie : Rows.fnExactFirstChangeUptoRow.laidByTextAt .later Tryd.pinned [.data, .data] true :=
  OpenClaim.laidByTextAt_later rfl rfl tie4 noOwnUnsafe
end Go.Proofs.YtbpdjmjkjiddjaaDoor
