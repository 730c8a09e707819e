/-
  spec.l02Own: a copy of a panel.
-/
import Derived.Test.YtbpdjmjkjiddjaaClone
import Derived.Test.YtbpdjmjkjiddjaaNew
import Derived.Test.YtbpdjmjkjiddjaaNum
namespace Go.Proofs.Ytbpdjmjkjiddjaa.Base
open Go.RowKit
set_option linter.unusedVariables false

end Go.Proofs.Ytbpdjmjkjiddjaa.Base
