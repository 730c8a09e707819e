/-
  The laws' own helpers for walkers.
-/
import Derived.Test.YtjgclemfehfgiaaShape
import Derived.Test.YtjgclemfehfgiaaPan
import Derived.Test.YtjgclemfehfgiaaNum
namespace Go.Proofs.Ytjgclemfehfgiaa.Base
open Go.RowKit
set_option linter.unusedVariables false

end Go.Proofs.Ytjgclemfehfgiaa.Base
