/-
  The laws' own helpers for walkers.
-/
import Derived.Test.YtdofeonkgaceeaaShape
import Derived.Test.YtdofeonkgaceeaaPan
import Derived.Test.YtdofeonkgaceeaaNum
namespace Go.Proofs.Ytdofeonkgaceeaa.Base
open Go.RowKit
set_option linter.unusedVariables false

end Go.Proofs.Ytdofeonkgaceeaa.Base
