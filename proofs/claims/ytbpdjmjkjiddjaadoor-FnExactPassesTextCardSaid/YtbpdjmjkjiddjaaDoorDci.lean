/-
  Numerals: the program's contract, over the library's FormatInt.
-/
import Derived.Test.YtbpdjmjkjiddjaaDoorDcm
import Derived.Test.YtbpdjmjkjiddjaaDoorShf
import Derived.Lib.AppendIntMem
namespace Go.Proofs.YtbpdjmjkjiddjaaDoor.Base
open Go Go.RowKit
set_option linter.unusedVariables false
set_option linter.unusedSimpArgs false

theorem impl_decimal (n : Int) (h0 : -9223372036854775808 ≤ n) (h1 : n ≤ 9223372036854775807) (w : World) (htab : Lib.TabIs Tryd.prog w "internal/strconv.uint64pow10" .u64 Lib.pow10Tab) :
    Calls Tryd.prog 51 #[.int .i64 n] w (Gives (.string (decS n)) w) := by
  go_enter Tryd.func51, Tryd.ntmps51
  go_wp2_with fail
  refine (Tryd.strconv_FormatInt_10 n h0 h1 _ htab).mono ?_
  rintro e w' ⟨rfl, k, os, rfl⟩
  have hb := Lib.below_grow w.heap.size w (Nat.le_refl _) k os
  generalize Sort.grow (w.drewN k) os = w1 at hb ⊢
  go_wp2
  go_ret
  exact ⟨rfl, hb⟩

/-- the table, in a later world -/
theorem tab_below {w w1 : World} {nm : String} {k : IntKind} {zs : List Int} (h : Lib.TabIs Tryd.prog w nm k zs) (hb : Below w.heap.size w w1) : Lib.TabIs Tryd.prog w1 nm k zs :=
  Lib.tabBelow_of_tabIs h w1 hb
end Go.Proofs.YtbpdjmjkjiddjaaDoor.Base
