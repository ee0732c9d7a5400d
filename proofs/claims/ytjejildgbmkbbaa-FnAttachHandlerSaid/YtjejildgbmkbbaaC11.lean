/-
  TREES changed: the program's AddLogger.
-/
import Derived.Test.YtjejildgbmkbbaaC10
namespace Go.Proofs.Ytjejildgbmkbbaa
open Go.RowKit Nm
set_option linter.unusedSimpArgs false
set_option linter.unusedVariables false

end Go.Proofs.Ytjejildgbmkbbaa
