/-
  Handler: an argument that holds it, as cells.
-/
import Derived.Test.YtbidlmejonpadaaKHdl
import Derived.Test.YtbidlmejonpadaaLawTrees
namespace Go.Proofs.Ytbidlmejonpadaa
open Go.RowKit Nm Go.ChangeShapes Go.WideShapes Go.Deep
set_option linter.unusedSimpArgs false
set_option linter.unusedVariables false

theorem openHdl {H : Type} {enc : TypeId × Value → H} {W : World} {base n : Nat} {sp : Nat → Bool} {hd : Bool} {cs : List Value} {x : DataW H × List MemPlace}
    (h : DataW.trod enc Try.prog W base sp hd n 43 cs = some x) :
    ∃ A n c d, cs = [txt d.nm, .int .i64 d.lv, .slice A n c] ∧ HdlRaw W W.heap.size A n c d := by
  obtain ⟨y, rfl, h1, h2, h3⟩ := openHandler h
  obtain ⟨A, c, hv, _, _⟩ := h2.form
  rw [hv] at h2
  exact ⟨A, y.fn, c, y.h, by rw [hcells, hv], h1, h2, h3⟩
end Go.Proofs.Ytbidlmejonpadaa
