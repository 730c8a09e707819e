/-
  spec.l02Own: a copy of a panel.
-/
import Derived.Test.YtdofeonkgaceeaaClone
import Derived.Test.YtdofeonkgaceeaaNew
import Derived.Test.YtdofeonkgaceeaaNum
namespace Go.Proofs.Ytdofeonkgaceeaa.Base
open Go.RowKit
set_option linter.unusedVariables false

end Go.Proofs.Ytdofeonkgaceeaa.Base
