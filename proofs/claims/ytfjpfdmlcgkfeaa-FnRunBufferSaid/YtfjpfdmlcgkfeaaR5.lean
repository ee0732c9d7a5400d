/-
  RECORDS: DropRepeats of the program.
-/
import Derived.Test.YtfjpfdmlcgkfeaaR4
import Derived.IntWalk
namespace Go.Proofs.Ytfjpfdmlcgkfeaa
open Go.RowKit Nm
set_option linter.unusedSimpArgs false
set_option linter.unusedVariables false

end Go.Proofs.Ytfjpfdmlcgkfeaa
