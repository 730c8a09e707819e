/-
  The laws' own helpers for walkers.
-/
import Derived.Test.YtekblfhpabgabaaDoorShape
import Derived.Test.YtekblfhpabgabaaDoorPan
import Derived.Test.YtekblfhpabgabaaDoorNum
namespace Go.Proofs.YtekblfhpabgabaaDoor.Base
open Go.RowKit
set_option linter.unusedVariables false

end Go.Proofs.YtekblfhpabgabaaDoor.Base
