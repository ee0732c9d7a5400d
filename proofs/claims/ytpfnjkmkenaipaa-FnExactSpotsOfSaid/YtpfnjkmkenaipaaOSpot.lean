/-
  Spot: an argument that holds it, as cells. By gen_open.py.
-/
import Derived.Test.YtpfnjkmkenaipaaGSpot
import Derived.Test.YtpfnjkmkenaipaaHelps
namespace Go.Proofs.Ytpfnjkmkenaipaa
open Go.RowKit Nm Go.ChangeShapes Go.WideShapes Go.Deep
set_option linter.unusedSimpArgs false
set_option linter.unusedVariables false

instance : Inhabited Spt := ⟨⟨[], []⟩⟩
end Go.Proofs.Ytpfnjkmkenaipaa
