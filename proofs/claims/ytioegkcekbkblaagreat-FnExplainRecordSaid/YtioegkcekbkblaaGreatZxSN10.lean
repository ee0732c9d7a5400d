/-
  RECORDS SENT: RunRecords: the model's, and both as the exact law takes them.
-/
import Derived.Test.YtioegkcekbkblaaGreatZxSN9
import Derived.Test.YtioegkcekbkblaaGreatZxKRecs
namespace Go.Proofs.YtioegkcekbkblaaGreat
open Go.RowKit Go.Proofs.YtioegkcekbkblaaGreat.Nm
set_option linter.unusedSimpArgs false
set_option linter.unusedVariables false

end Go.Proofs.YtioegkcekbkblaaGreat
