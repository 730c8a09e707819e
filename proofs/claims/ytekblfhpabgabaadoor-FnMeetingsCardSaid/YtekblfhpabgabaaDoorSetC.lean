/-
  SetBreak, the program's.
-/
import Derived.Test.YtekblfhpabgabaaDoorSetB
namespace Go.Proofs.YtekblfhpabgabaaDoor.Base
open Go.RowKit
set_option linter.unusedVariables false

end Go.Proofs.YtekblfhpabgabaaDoor.Base
