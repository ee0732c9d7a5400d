/-
  TREES changed: the model's AddLogger. By gen_c12.py.
-/
import Derived.Test.YtcgcbgbmofooiaaC11
namespace Go.Proofs.Ytcgcbgbmofooiaa
open Go.RowKit Nm
set_option linter.unusedSimpArgs false
set_option linter.unusedVariables false

end Go.Proofs.Ytcgcbgbmofooiaa
