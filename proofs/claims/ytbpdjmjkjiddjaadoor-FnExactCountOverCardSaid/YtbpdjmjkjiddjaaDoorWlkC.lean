/-
  The laws' own helpers for walkers.
-/
import Derived.Test.YtbpdjmjkjiddjaaDoorShape
import Derived.Test.YtbpdjmjkjiddjaaDoorPan
import Derived.Test.YtbpdjmjkjiddjaaDoorNum
namespace Go.Proofs.YtbpdjmjkjiddjaaDoor.Base
open Go.RowKit
set_option linter.unusedVariables false

end Go.Proofs.YtbpdjmjkjiddjaaDoor.Base
