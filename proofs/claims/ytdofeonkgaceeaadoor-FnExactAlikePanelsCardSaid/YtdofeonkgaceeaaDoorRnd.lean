/-
  impl's round: the iterator that gives the walkers of a curve.
-/
import Derived.Test.YtdofeonkgaceeaaDoorWsi
import Derived.Test.YtdofeonkgaceeaaDoorRfj
import Derived.Test.YtdofeonkgaceeaaDoorTrc
import Derived.Sort.CutIn
import Derived.Shelf.Abstract
namespace Go.Proofs.YtdofeonkgaceeaaDoor.Base
open Go Go.RowKit
set_option linter.unusedVariables false
set_option linter.unusedSimpArgs false
attribute [local go_sem] Oper.semAt_some

end Go.Proofs.YtdofeonkgaceeaaDoor.Base
