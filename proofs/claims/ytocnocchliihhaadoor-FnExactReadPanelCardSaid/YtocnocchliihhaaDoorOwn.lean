/-
  spec.l02Own: a copy of a panel.
-/
import Derived.Test.YtocnocchliihhaaDoorClone
import Derived.Test.YtocnocchliihhaaDoorNew
import Derived.Test.YtocnocchliihhaaDoorNum
namespace Go.Proofs.YtocnocchliihhaaDoor.Base
open Go.RowKit
set_option linter.unusedVariables false

end Go.Proofs.YtocnocchliihhaaDoor.Base
