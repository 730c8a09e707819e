/-
  spec.l02Own: a copy of a panel.
-/
import Derived.Test.YtjgclemfehfgiaaClone
import Derived.Test.YtjgclemfehfgiaaNew
import Derived.Test.YtjgclemfehfgiaaNum
namespace Go.Proofs.Ytjgclemfehfgiaa.Base
open Go.RowKit
set_option linter.unusedVariables false

end Go.Proofs.Ytjgclemfehfgiaa.Base
