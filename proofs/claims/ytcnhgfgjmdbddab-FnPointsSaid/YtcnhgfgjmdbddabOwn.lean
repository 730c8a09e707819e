/-
  spec.l02Own: a copy of a panel.
-/
import Derived.Test.YtcnhgfgjmdbddabClone
import Derived.Test.YtcnhgfgjmdbddabNew
import Derived.Test.YtcnhgfgjmdbddabBrk
import Derived.Test.YtcnhgfgjmdbddabCnt
namespace Go.Proofs.Ytcnhgfgjmdbddab.Base
open Go.RowKit
set_option linter.unusedVariables false

end Go.Proofs.Ytcnhgfgjmdbddab.Base
