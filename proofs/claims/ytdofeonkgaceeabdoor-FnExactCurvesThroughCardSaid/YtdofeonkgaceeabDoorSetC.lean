/-
  SetBreak, the program's.
-/
import Derived.Test.YtdofeonkgaceeabDoorSetB
namespace Go.Proofs.YtdofeonkgaceeabDoor.Base
open Go.RowKit
set_option linter.unusedVariables false

end Go.Proofs.YtdofeonkgaceeabDoor.Base
