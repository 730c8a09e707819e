/-
  The laws' own helpers for walkers.
-/
import Derived.Test.YtdofeonkgaceeaaDoorShape
import Derived.Test.YtdofeonkgaceeaaDoorPan
import Derived.Test.YtdofeonkgaceeaaDoorNum
namespace Go.Proofs.YtdofeonkgaceeaaDoor.Base
open Go.RowKit
set_option linter.unusedVariables false

end Go.Proofs.YtdofeonkgaceeaaDoor.Base
