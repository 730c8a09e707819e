/-
  SetBreak, the program's.
-/
import Derived.Test.YtocnocchliihhaaDoorSetB
namespace Go.Proofs.YtocnocchliihhaaDoor.Base
open Go.RowKit
set_option linter.unusedVariables false

end Go.Proofs.YtocnocchliihhaaDoor.Base
