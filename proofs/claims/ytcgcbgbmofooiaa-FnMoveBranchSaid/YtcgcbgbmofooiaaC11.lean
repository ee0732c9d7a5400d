/-
  TREES changed: the program's AddLogger.
-/
import Derived.Test.YtcgcbgbmofooiaaC10
namespace Go.Proofs.Ytcgcbgbmofooiaa
open Go.RowKit Nm
set_option linter.unusedSimpArgs false
set_option linter.unusedVariables false

end Go.Proofs.Ytcgcbgbmofooiaa
