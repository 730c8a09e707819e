/-
  spec.l02Own: a copy of a panel.
-/
import Derived.Test.YtpkajonnopmciaaClone
import Derived.Test.YtpkajonnopmciaaNew
import Derived.Test.YtpkajonnopmciaaNum
namespace Go.Proofs.Ytpkajonnopmciaa.Base
open Go.RowKit
set_option linter.unusedVariables false

end Go.Proofs.Ytpkajonnopmciaa.Base
