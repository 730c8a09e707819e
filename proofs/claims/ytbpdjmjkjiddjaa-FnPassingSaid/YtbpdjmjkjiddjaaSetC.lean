/-
  SetBreak, the program's.
-/
import Derived.Test.YtbpdjmjkjiddjaaSetB
namespace Go.Proofs.Ytbpdjmjkjiddjaa.Base
open Go.RowKit
set_option linter.unusedVariables false

end Go.Proofs.Ytbpdjmjkjiddjaa.Base
