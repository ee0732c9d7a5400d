/-
  RECORDS SENT: the model's SendRecord.
-/
import Derived.Test.YtioegkcekbkblaaGreatZySN7
namespace Go.Proofs.YtioegkcekbkblaaGreat
open Go.RowKit Go.Proofs.YtioegkcekbkblaaGreat.Nm
set_option linter.unusedSimpArgs false
set_option linter.unusedVariables false

end Go.Proofs.YtioegkcekbkblaaGreat
