/-
  SetBreak, the program's.
-/
import Derived.Test.YtajikegfladelaaSetB
namespace Go.Proofs.Ytajikegfladelaa.Base
open Go.RowKit
set_option linter.unusedVariables false

end Go.Proofs.Ytajikegfladelaa.Base
