/-
  SetBreak, the program's.
-/
import Derived.Test.YtbpdjmjkjiddjaaDoorSetB
namespace Go.Proofs.YtbpdjmjkjiddjaaDoor.Base
open Go.RowKit
set_option linter.unusedVariables false

end Go.Proofs.YtbpdjmjkjiddjaaDoor.Base
