/-
  Field: an argument that holds it, as cells. By gen_open.py.
-/
import Derived.Test.YtmadcocbncmpoaaGField
import Derived.Test.YtmadcocbncmpoaaHelps
namespace Go.Proofs.Ytmadcocbncmpoaa
open Go.RowKit Nm Go.ChangeShapes Go.WideShapes Go.Deep
set_option linter.unusedSimpArgs false
set_option linter.unusedVariables false

instance : Inhabited Fld := ⟨⟨[], []⟩⟩
set_option maxRecDepth 100000 in
theorem openField {H : Type} {enc : TypeId × Value → H} {W : World} {base n : Nat} {sp : Nat → Bool} {hd : Bool} {cs : List Value} {x : DataW H × List MemPlace}
    (h : DataW.trod enc Try.prog W base sp hd n 45 cs = some x) : ∃ y : Fld, cs = fdcells y ∧ (y.ky.length ≤ maxLen ∧ y.vl.length ≤ maxLen) := by
  obtain ⟨ys, m, _, _, hlen, hyl, hf⟩ := DataW.trod_struct Try.underlying45 h
  rw [show Try.prog.cellsOf 45 = 2 by kernel_rfl] at hlen
  have hys : ys.length = 2 := hyl
  match cs, hlen with
  | [c0, c1], _ =>
    have k0 : DataW.trod enc Try.prog W base sp hd m 9 [c0] = some (ys[0]'(by omega)) := by
      rw [← List.getElem?_eq_getElem, ← hf 0 _ rfl]
      first | rfl | (show _ = DataW.trod _ _ _ _ _ _ _ _ (List.take (Try.prog.cellsOf 9) _); rw [show Try.prog.cellsOf 9 = 1 by kernel_rfl]; rfl)
    obtain ⟨s0, e0, _, hs0⟩ := DataW.trod_string Try.underlying9 k0
    have k1 : DataW.trod enc Try.prog W base sp hd m 9 [c1] = some (ys[1]'(by omega)) := by
      rw [← List.getElem?_eq_getElem, ← hf 1 _ rfl]
      first | rfl | (show _ = DataW.trod _ _ _ _ _ _ _ _ (List.take (Try.prog.cellsOf 9) _); rw [show Try.prog.cellsOf 9 = 1 by kernel_rfl]; rfl)
    obtain ⟨s1, e1, _, hs1⟩ := DataW.trod_string Try.underlying9 k1
    simp at e0 e1
    subst e0
    subst e1
    exact ⟨⟨s0.data.toList, s1.data.toList⟩, by simp [fdcells, txt_data], ⟨by show s0.data.toList.length ≤ _; rw [← Lib.size_eq]; exact hs0, by show s1.data.toList.length ≤ _; rw [← Lib.size_eq]; exact hs1⟩⟩
end Go.Proofs.Ytmadcocbncmpoaa
