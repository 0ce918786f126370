/-
  The document's flow: Clears.
-/
import Derived.Test.YtimgelekpghklaaFlowR1
import Derived.Test.YtimgelekpghklaaFlowW2
import Derived.Test.YtimgelekpghklaaLabR7
namespace Go.Proofs.Ytimgelekpghklaa
set_option linter.unusedVariables false
set_option linter.unusedSimpArgs false
set_option maxRecDepth 20000
open Go.RowKit

end Go.Proofs.Ytimgelekpghklaa
