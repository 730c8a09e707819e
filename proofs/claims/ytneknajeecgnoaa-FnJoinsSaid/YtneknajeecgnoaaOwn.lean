/-
  spec.l02Own: a copy of a panel.
-/
import Derived.Test.YtneknajeecgnoaaClone
import Derived.Test.YtneknajeecgnoaaNew
import Derived.Test.YtneknajeecgnoaaNum
namespace Go.Proofs.Ytneknajeecgnoaa.Base
open Go.RowKit
set_option linter.unusedVariables false

end Go.Proofs.Ytneknajeecgnoaa.Base
