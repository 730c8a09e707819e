/-
  The laws' own helpers for walkers.
-/
import Derived.Test.YtneknajeecgnoaaDoorShape
import Derived.Test.YtneknajeecgnoaaDoorPan
import Derived.Test.YtneknajeecgnoaaDoorNum
namespace Go.Proofs.YtneknajeecgnoaaDoor.Base
open Go.RowKit
set_option linter.unusedVariables false

end Go.Proofs.YtneknajeecgnoaaDoor.Base
