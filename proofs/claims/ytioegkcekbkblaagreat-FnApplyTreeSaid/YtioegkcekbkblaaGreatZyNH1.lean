/-
  A HANDLER NAMED ANEW: plain; the program's handlerAt.
-/
import Derived.Test.YtioegkcekbkblaaGreatZyCM
import Derived.Test.YtioegkcekbkblaaGreatZyUM
namespace Go.Proofs.YtioegkcekbkblaaGreat
open Go.RowKit Nm
set_option linter.unusedSimpArgs false
set_option linter.unusedVariables false

def hnm (H : List Hnd) : List Name := H.map (·.nm)
end Go.Proofs.YtioegkcekbkblaaGreat
