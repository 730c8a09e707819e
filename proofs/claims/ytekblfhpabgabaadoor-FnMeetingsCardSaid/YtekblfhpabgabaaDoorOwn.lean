/-
  spec.l02Own: a copy of a panel.
-/
import Derived.Test.YtekblfhpabgabaaDoorClone
import Derived.Test.YtekblfhpabgabaaDoorNew
import Derived.Test.YtekblfhpabgabaaDoorNum
namespace Go.Proofs.YtekblfhpabgabaaDoor.Base
open Go.RowKit
set_option linter.unusedVariables false

end Go.Proofs.YtekblfhpabgabaaDoor.Base
