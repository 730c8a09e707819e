/-
  spec.l02Own: a copy of a panel.
-/
import Derived.Test.YtdofeonkgaceeacDoorClone
import Derived.Test.YtdofeonkgaceeacDoorNew
import Derived.Test.YtdofeonkgaceeacDoorNum
namespace Go.Proofs.YtdofeonkgaceeacDoor.Base
open Go.RowKit
set_option linter.unusedVariables false

end Go.Proofs.YtdofeonkgaceeacDoor.Base
