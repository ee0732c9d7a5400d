/-
  LOGGERS AND HANDLERS DROPPED, ATTACHED, DETACHED: plain.
-/
import Derived.Test.YtioegkcekbkblaaGreatZyPT1
namespace Go.Proofs.YtioegkcekbkblaaGreat
open Go.RowKit Nm
set_option linter.unusedSimpArgs false
set_option linter.unusedVariables false

theorem none_fit : dataFit (resL none) (resH none) := ⟨⟨by simp [resL], by simp [resL]⟩, ⟨by simp [resH], by simp [resH]⟩⟩
end Go.Proofs.YtioegkcekbkblaaGreat
