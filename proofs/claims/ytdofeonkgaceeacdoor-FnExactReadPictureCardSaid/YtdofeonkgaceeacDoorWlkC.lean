/-
  The laws' own helpers for walkers.
-/
import Derived.Test.YtdofeonkgaceeacDoorShape
import Derived.Test.YtdofeonkgaceeacDoorPan
import Derived.Test.YtdofeonkgaceeacDoorNum
namespace Go.Proofs.YtdofeonkgaceeacDoor.Base
open Go.RowKit
set_option linter.unusedVariables false

end Go.Proofs.YtdofeonkgaceeacDoor.Base
