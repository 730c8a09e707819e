/-
  spec.l02Own: a copy of a panel.
-/
import Derived.Test.YtfkodbpkfoecoaaDoorClone
import Derived.Test.YtfkodbpkfoecoaaDoorNew
import Derived.Test.YtfkodbpkfoecoaaDoorBrk
import Derived.Test.YtfkodbpkfoecoaaDoorCnt
namespace Go.Proofs.YtfkodbpkfoecoaaDoor.Base
open Go.RowKit
set_option linter.unusedVariables false

end Go.Proofs.YtfkodbpkfoecoaaDoor.Base
