/-
  SetBreak, the program's.
-/
import Derived.Test.YtajikegfladelaaDoorSetB
namespace Go.Proofs.YtajikegfladelaaDoor.Base
open Go.RowKit
set_option linter.unusedVariables false

end Go.Proofs.YtajikegfladelaaDoor.Base
