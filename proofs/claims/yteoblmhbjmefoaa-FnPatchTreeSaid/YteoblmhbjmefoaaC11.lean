/-
  TREES changed: the program's AddLogger.
-/
import Derived.Test.YteoblmhbjmefoaaC10
namespace Go.Proofs.Yteoblmhbjmefoaa
open Go.RowKit Nm
set_option linter.unusedSimpArgs false
set_option linter.unusedVariables false

end Go.Proofs.Yteoblmhbjmefoaa
