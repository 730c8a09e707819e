/-
  spec.l02Own: a copy of a panel.
-/
import Derived.Test.YtajikegfladelaaClone
import Derived.Test.YtajikegfladelaaNew
import Derived.Test.YtajikegfladelaaNum
namespace Go.Proofs.Ytajikegfladelaa.Base
open Go.RowKit
set_option linter.unusedVariables false

end Go.Proofs.Ytajikegfladelaa.Base
