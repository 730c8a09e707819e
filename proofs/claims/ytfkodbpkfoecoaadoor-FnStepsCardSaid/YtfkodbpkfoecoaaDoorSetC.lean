/-
  SetBreak, the program's.
-/
import Derived.Test.YtfkodbpkfoecoaaDoorSetB
namespace Go.Proofs.YtfkodbpkfoecoaaDoor.Base
open Go.RowKit
set_option linter.unusedVariables false

end Go.Proofs.YtfkodbpkfoecoaaDoor.Base
