/-
  The laws' own helpers for walkers.
-/
import Derived.Test.YtgdmojkfpghmnaaShape
import Derived.Test.YtgdmojkfpghmnaaPan
import Derived.Test.YtgdmojkfpghmnaaNum
namespace Go.Proofs.Ytgdmojkfpghmnaa.Base
open Go.RowKit
set_option linter.unusedVariables false

end Go.Proofs.Ytgdmojkfpghmnaa.Base
