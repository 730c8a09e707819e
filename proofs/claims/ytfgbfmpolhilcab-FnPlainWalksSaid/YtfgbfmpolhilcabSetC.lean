/-
  SetBreak, the program's.
-/
import Derived.Test.YtfgbfmpolhilcabSetB
namespace Go.Proofs.Ytfgbfmpolhilcab.Base
open Go.RowKit
set_option linter.unusedVariables false

end Go.Proofs.Ytfgbfmpolhilcab.Base
