/-
  TREES changed: the model's AddLogger. By gen_c12.py.
-/
import Derived.Test.YtjejildgbmkbbaaC11
namespace Go.Proofs.Ytjejildgbmkbbaa
open Go.RowKit Nm
set_option linter.unusedSimpArgs false
set_option linter.unusedVariables false

end Go.Proofs.Ytjejildgbmkbbaa
