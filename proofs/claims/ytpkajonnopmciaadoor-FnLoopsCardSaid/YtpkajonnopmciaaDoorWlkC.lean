/-
  The laws' own helpers for walkers.
-/
import Derived.Test.YtpkajonnopmciaaDoorShape
import Derived.Test.YtpkajonnopmciaaDoorPan
import Derived.Test.YtpkajonnopmciaaDoorNum
namespace Go.Proofs.YtpkajonnopmciaaDoor.Base
open Go.RowKit
set_option linter.unusedVariables false

end Go.Proofs.YtpkajonnopmciaaDoor.Base
