/-
  SetBreak, the program's.
-/
import Derived.Test.YtneknajeecgnoaaDoorSetB
namespace Go.Proofs.YtneknajeecgnoaaDoor.Base
open Go.RowKit
set_option linter.unusedVariables false

end Go.Proofs.YtneknajeecgnoaaDoor.Base
