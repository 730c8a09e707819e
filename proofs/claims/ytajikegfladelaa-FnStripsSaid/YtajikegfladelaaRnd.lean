/-
  impl's round: the iterator that gives the walkers of a curve.
-/
import Derived.Test.YtajikegfladelaaWsi
import Derived.Test.YtajikegfladelaaRfj
import Derived.Test.YtajikegfladelaaTrc
import Derived.Sort.CutIn
import Derived.Shelf.Abstract
namespace Go.Proofs.Ytajikegfladelaa.Base
open Go Go.RowKit
set_option linter.unusedVariables false
set_option linter.unusedSimpArgs false
attribute [local go_sem] Oper.semAt_some

end Go.Proofs.Ytajikegfladelaa.Base
