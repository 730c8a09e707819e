/-
  The laws' own helpers for walkers.
-/
import Derived.Test.YtajikegfladelaaShape
import Derived.Test.YtajikegfladelaaPan
import Derived.Test.YtajikegfladelaaNum
namespace Go.Proofs.Ytajikegfladelaa.Base
open Go.RowKit
set_option linter.unusedVariables false

end Go.Proofs.Ytajikegfladelaa.Base
