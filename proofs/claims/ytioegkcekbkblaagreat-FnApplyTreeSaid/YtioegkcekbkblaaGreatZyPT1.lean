/-
  A TREE PATCHED WITH LEVELS OF ANOTHER ONE: plain.
-/
import Derived.Test.YtioegkcekbkblaaGreatZyNH1
namespace Go.Proofs.YtioegkcekbkblaaGreat
open Go.RowKit Nm
set_option linter.unusedSimpArgs false
set_option linter.unusedVariables false

end Go.Proofs.YtioegkcekbkblaaGreat
