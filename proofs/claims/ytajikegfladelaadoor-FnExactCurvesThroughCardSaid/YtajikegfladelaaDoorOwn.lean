/-
  spec.l02Own: a copy of a panel.
-/
import Derived.Test.YtajikegfladelaaDoorClone
import Derived.Test.YtajikegfladelaaDoorNew
import Derived.Test.YtajikegfladelaaDoorNum
namespace Go.Proofs.YtajikegfladelaaDoor.Base
open Go.RowKit
set_option linter.unusedVariables false

end Go.Proofs.YtajikegfladelaaDoor.Base
