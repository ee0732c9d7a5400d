/-
  A HANDLER TAKEN AWAY FROM A LOGGER: slices.DeleteFunc over texts, detach; the model's without.
-/
import Derived.Test.YtioegkcekbkblaaGreatZxDL1
import Derived.Test.YtioegkcekbkblaaGreatZxDL2
import Derived.Test.YtioegkcekbkblaaGreatZxUM
namespace Go.Proofs.YtioegkcekbkblaaGreat
open Go.RowKit Nm
set_option linter.unusedSimpArgs false
set_option linter.unusedVariables false

end Go.Proofs.YtioegkcekbkblaaGreat
