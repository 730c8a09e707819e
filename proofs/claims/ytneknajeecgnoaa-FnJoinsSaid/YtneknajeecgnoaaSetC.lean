/-
  SetBreak, the program's.
-/
import Derived.Test.YtneknajeecgnoaaSetB
namespace Go.Proofs.Ytneknajeecgnoaa.Base
open Go.RowKit
set_option linter.unusedVariables false

end Go.Proofs.Ytneknajeecgnoaa.Base
