/-
  spec.l02Own: a copy of a panel.
-/
import Derived.Test.YtfgbfmpolhilcabClone
import Derived.Test.YtfgbfmpolhilcabNew
import Derived.Test.YtfgbfmpolhilcabNum
namespace Go.Proofs.Ytfgbfmpolhilcab.Base
open Go.RowKit
set_option linter.unusedVariables false

end Go.Proofs.Ytfgbfmpolhilcab.Base
