/-
  STORES: FlushBuffer of the model. By gen_s4.py.
-/
import Derived.Test.YtfjpfdmlcgkfeaaS3
namespace Go.Proofs.Ytfjpfdmlcgkfeaa
open Go.RowKit Nm
set_option linter.unusedSimpArgs false
set_option linter.unusedVariables false

theorem flushB_fit {d : Buf} (h : BufFit d) : BufFit (flushB d) := by unfold flushB; split <;> exact RecsFit.nil
theorem flushR_fit {d : Buf} (h : BufFit d) : RecsFit (flushR d) := by unfold flushR; split; exact h; exact RecsFit.nil
end Go.Proofs.Ytfjpfdmlcgkfeaa
