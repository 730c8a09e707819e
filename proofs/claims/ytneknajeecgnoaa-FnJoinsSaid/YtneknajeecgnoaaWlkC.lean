/-
  The laws' own helpers for walkers.
-/
import Derived.Test.YtneknajeecgnoaaShape
import Derived.Test.YtneknajeecgnoaaPan
import Derived.Test.YtneknajeecgnoaaNum
namespace Go.Proofs.Ytneknajeecgnoaa.Base
open Go.RowKit
set_option linter.unusedVariables false

end Go.Proofs.Ytneknajeecgnoaa.Base
