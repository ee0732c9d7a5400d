/-
  C1, C2, C3, C5, C6, C4, C7, C8, C9, C10, C11, C12 laid together.
-/
import Derived.Test.YtioegkcekbkblaaGreatZxMarks
import Derived.Test.YtioegkcekbkblaaGreatZxApp
/-
  TREES copied: the program's freshList, copyTree.
-/
namespace Go.Proofs.YtioegkcekbkblaaGreat
open Go.RowKit Nm
set_option linter.unusedSimpArgs false
set_option linter.unusedVariables false

end Go.Proofs.YtioegkcekbkblaaGreat

/-
  TREES copied: the program's copyTree.
-/
namespace Go.Proofs.YtioegkcekbkblaaGreat
open Go.RowKit Nm
set_option linter.unusedSimpArgs false
set_option linter.unusedVariables false

end Go.Proofs.YtioegkcekbkblaaGreat

/-
  TREES changed: what comes back; the program's SetQuiet.
-/
namespace Go.Proofs.YtioegkcekbkblaaGreat
open Go.RowKit Nm
set_option linter.unusedSimpArgs false
set_option linter.unusedVariables false

end Go.Proofs.YtioegkcekbkblaaGreat

/-
  TREES copied: the model's copyHandler, copyTree.
-/
namespace Go.Proofs.YtioegkcekbkblaaGreat
open Go.RowKit Nm
set_option linter.unusedSimpArgs false
set_option linter.unusedVariables false

end Go.Proofs.YtioegkcekbkblaaGreat

/-
  TREES copied: the model's copyTree.
-/
namespace Go.Proofs.YtioegkcekbkblaaGreat
open Go.RowKit Nm
set_option linter.unusedSimpArgs false
set_option linter.unusedVariables false

end Go.Proofs.YtioegkcekbkblaaGreat

/-
  TREES changed: the program's SetQuiet, changedLogger, SetLevel, SetStop, SetOff.
-/
namespace Go.Proofs.YtioegkcekbkblaaGreat
open Go.RowKit Nm
set_option linter.unusedSimpArgs false
set_option linter.unusedVariables false

end Go.Proofs.YtioegkcekbkblaaGreat

/-
  TREES changed: the model's checkedTree and SetQuiet.
-/
namespace Go.Proofs.YtioegkcekbkblaaGreat
open Go.RowKit Nm
set_option linter.unusedSimpArgs false
set_option linter.unusedVariables false

end Go.Proofs.YtioegkcekbkblaaGreat

/-
  TREES changed: one cell of a logger: the program's SetLevel, SetStop, SetOff. By gen_c8.py.
-/
namespace Go.Proofs.YtioegkcekbkblaaGreat
open Go.RowKit Nm
set_option linter.unusedSimpArgs false
set_option linter.unusedVariables false

end Go.Proofs.YtioegkcekbkblaaGreat

/-
  TREES changed: one cell of a logger: the model's SetLevel, SetStop, SetOff. By gen_c9.py.
-/
namespace Go.Proofs.YtioegkcekbkblaaGreat
open Go.RowKit Nm
set_option linter.unusedSimpArgs false
set_option linter.unusedVariables false

end Go.Proofs.YtioegkcekbkblaaGreat

/-
  TREES changed: AddLogger.
-/
namespace Go.Proofs.YtioegkcekbkblaaGreat
open Go.RowKit Nm
set_option linter.unusedSimpArgs false
set_option linter.unusedVariables false

theorem Rows.off {W : World} {lo b j : Nat} {u : Value} {rs : List Row} (h : Rows W lo rs) (hb : ∀ r ∈ rs, r.v.ownBlock ≠ some b) : Rows (W.setCell ⟨b, j, none⟩ u) lo rs :=
  ⟨fun r hr => (h.1 r hr).kept (grown_set W b j u) (by
    cases hq : r.v.ownBlock with
    | none => exact .inl rfl
    | some g => right; intro e2; exact hb r hr (hq.trans e2)), h.2⟩
end Go.Proofs.YtioegkcekbkblaaGreat

/-
  TREES changed: the program's AddLogger.
-/
namespace Go.Proofs.YtioegkcekbkblaaGreat
open Go.RowKit Nm
set_option linter.unusedSimpArgs false
set_option linter.unusedVariables false

end Go.Proofs.YtioegkcekbkblaaGreat

/-
  TREES changed: the model's AddLogger. By gen_c12.py.
-/
namespace Go.Proofs.YtioegkcekbkblaaGreat
open Go.RowKit Nm
set_option linter.unusedSimpArgs false
set_option linter.unusedVariables false

end Go.Proofs.YtioegkcekbkblaaGreat
