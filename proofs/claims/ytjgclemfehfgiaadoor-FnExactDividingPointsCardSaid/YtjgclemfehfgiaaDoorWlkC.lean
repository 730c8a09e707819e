/-
  The laws' own helpers for walkers.
-/
import Derived.Test.YtjgclemfehfgiaaDoorShape
import Derived.Test.YtjgclemfehfgiaaDoorPan
import Derived.Test.YtjgclemfehfgiaaDoorNum
namespace Go.Proofs.YtjgclemfehfgiaaDoor.Base
open Go.RowKit
set_option linter.unusedVariables false

end Go.Proofs.YtjgclemfehfgiaaDoor.Base
