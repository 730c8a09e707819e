/-
  impl.walk's iterator: it gives the walkers that come by steps.
-/
import Derived.Test.YtbpdjmjkjiddjaaDoorTrn
import Derived.Test.YtbpdjmjkjiddjaaDoorItr
import Derived.Test.YtbpdjmjkjiddjaaDoorWst
import Derived.Test.YtbpdjmjkjiddjaaDoorRfi
import Derived.OwnWalkIn
import Derived.TacticsInMore
import Derived.LoopNIn
import Derived.LoopIn
namespace Go.Proofs.YtbpdjmjkjiddjaaDoor.Base
open Go Go.RowKit
set_option linter.unusedVariables false
set_option linter.unusedSimpArgs false
attribute [local go_sem] Oper.semAt_some

def pagg (W H : Int) (A : Option Addr) (n c : Nat) : Value := .agg #[.int .i64 W, .int .i64 H, .slice A n c]
def wagg (v : W4) : Value := .agg #[.int .i64 v.1, .int .i64 v.2.1, .int .i64 v.2.2.1, .int .i64 v.2.2.2]

end Go.Proofs.YtbpdjmjkjiddjaaDoor.Base
