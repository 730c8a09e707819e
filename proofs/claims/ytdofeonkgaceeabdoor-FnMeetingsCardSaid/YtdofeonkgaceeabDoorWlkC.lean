/-
  The laws' own helpers for walkers.
-/
import Derived.Test.YtdofeonkgaceeabDoorShape
import Derived.Test.YtdofeonkgaceeabDoorPan
import Derived.Test.YtdofeonkgaceeabDoorNum
namespace Go.Proofs.YtdofeonkgaceeabDoor.Base
open Go.RowKit
set_option linter.unusedVariables false

end Go.Proofs.YtdofeonkgaceeabDoor.Base
