/-
  spec.l02Own: a copy of a panel.
-/
import Derived.Test.YtpkajonnopmciaaDoorClone
import Derived.Test.YtpkajonnopmciaaDoorNew
import Derived.Test.YtpkajonnopmciaaDoorNum
namespace Go.Proofs.YtpkajonnopmciaaDoor.Base
open Go.RowKit
set_option linter.unusedVariables false

end Go.Proofs.YtpkajonnopmciaaDoor.Base
