/-
  TREES changed: the model's checkedTree and SetQuiet.
-/
import Derived.Test.YtjejildgbmkbbaaC6
import Derived.Test.YtjejildgbmkbbaaC4
namespace Go.Proofs.Ytjejildgbmkbbaa
open Go.RowKit Nm
set_option linter.unusedSimpArgs false
set_option linter.unusedVariables false

theorem changed_fit (L : List Lgr) (H : List Hnd) (q : Int) (o : Option TreeD) : dataFit (resL (changedO L H q o)) (resH (changedO L H q o)) := by
  have hn : dataFit (resL none) (resH none) := ⟨⟨by simp [resL], by simp [resL]⟩, ⟨by simp [resH], by simp [resH]⟩⟩
  unfold changedO
  cases treeOk L H q with
  | false => exact hn
  | true =>
    cases o with
    | none => exact hn
    | some x =>
      show dataFit (resL (ifOk x.1 x.2.1 x.2.2)) (resH (ifOk x.1 x.2.1 x.2.2))
      unfold ifOk
      by_cases h : treeOk x.1 x.2.1 x.2.2 = true
      · rw [if_pos h]; exact fit_ok h
      · rw [if_neg h]; exact hn
/-- what the model's check gives -/
def CheckPost (w : World) (v : Value) (b : Bool) (e : Ending) (w' : World) : Prop :=
  e = .returned (.tuple #[if b then v else .agg #[.slice none 0 0, .slice none 0 0, .int .i64 0], .bool b]) ∧ Below w.heap.size w w'

end Go.Proofs.Ytjejildgbmkbbaa
