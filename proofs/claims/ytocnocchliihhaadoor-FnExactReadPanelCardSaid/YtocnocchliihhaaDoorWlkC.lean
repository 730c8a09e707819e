/-
  The laws' own helpers for walkers.
-/
import Derived.Test.YtocnocchliihhaaDoorShape
import Derived.Test.YtocnocchliihhaaDoorPan
import Derived.Test.YtocnocchliihhaaDoorNum
namespace Go.Proofs.YtocnocchliihhaaDoor.Base
open Go.RowKit
set_option linter.unusedVariables false

end Go.Proofs.YtocnocchliihhaaDoor.Base
