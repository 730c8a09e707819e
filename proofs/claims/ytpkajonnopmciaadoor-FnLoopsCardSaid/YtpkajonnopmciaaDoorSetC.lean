/-
  SetBreak, the program's.
-/
import Derived.Test.YtpkajonnopmciaaDoorSetB
namespace Go.Proofs.YtpkajonnopmciaaDoor.Base
open Go.RowKit
set_option linter.unusedVariables false

end Go.Proofs.YtpkajonnopmciaaDoor.Base
