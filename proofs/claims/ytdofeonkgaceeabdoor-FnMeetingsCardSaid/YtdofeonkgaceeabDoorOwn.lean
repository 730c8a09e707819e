/-
  spec.l02Own: a copy of a panel.
-/
import Derived.Test.YtdofeonkgaceeabDoorClone
import Derived.Test.YtdofeonkgaceeabDoorNew
import Derived.Test.YtdofeonkgaceeabDoorNum
namespace Go.Proofs.YtdofeonkgaceeabDoor.Base
open Go.RowKit
set_option linter.unusedVariables false

end Go.Proofs.YtdofeonkgaceeabDoor.Base
