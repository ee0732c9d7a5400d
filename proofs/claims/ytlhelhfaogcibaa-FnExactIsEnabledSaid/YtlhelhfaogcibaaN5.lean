/-
  WALKS: LoggerAt of the program: the library's IndexFunc with a closure.
-/
import Derived.Test.YtlhelhfaogcibaaN4
namespace Go.Proofs.Ytlhelhfaogcibaa
open Go.RowKit Nm
set_option linter.unusedSimpArgs false
set_option linter.unusedVariables false

theorem mem_of_at {l : List LgrV} {k : Nat} {x : LgrV} (hx : l[k]? = some x) : (lnames l)[k]? = some x.l.nm := by simp [lnames, hx]

end Go.Proofs.Ytlhelhfaogcibaa
