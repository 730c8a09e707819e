/-
  The laws' own helpers for walkers.
-/
import Derived.Test.YtpkajonnopmciaaShape
import Derived.Test.YtpkajonnopmciaaPan
import Derived.Test.YtpkajonnopmciaaNum
namespace Go.Proofs.Ytpkajonnopmciaa.Base
open Go.RowKit
set_option linter.unusedVariables false

end Go.Proofs.Ytpkajonnopmciaa.Base
