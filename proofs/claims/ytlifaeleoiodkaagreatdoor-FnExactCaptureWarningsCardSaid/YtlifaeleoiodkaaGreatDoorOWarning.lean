/-
  Warning: an argument that holds it, as cells. By gen_open.py.
-/
import Derived.Test.YtlifaeleoiodkaaGreatDoorGWarning
import Derived.Test.YtlifaeleoiodkaaGreatDoorHelps
namespace Go.Proofs.YtlifaeleoiodkaaGreatDoor
open Go.RowKit Nm Go.ChangeShapes Go.WideShapes Go.Deep
set_option linter.unusedSimpArgs false
set_option linter.unusedVariables false

instance : Inhabited Wrn := ⟨⟨[], [], 0⟩⟩
set_option maxRecDepth 100000 in
theorem openWarning {H : Type} {enc : TypeId × Value → H} {W : World} {base n : Nat} {sp : Nat → Bool} {hd : Bool} {cs : List Value} {x : DataW H × List MemPlace}
    (h : DataW.trod enc Tryz.prog W base sp hd n 71 cs = some x) : ∃ y : Wrn, cs = wncells y ∧ (y.tx.length ≤ maxLen ∧ y.md.length ≤ maxLen) := by
  obtain ⟨ys, m, _, _, hlen, hyl, hf⟩ := DataW.trod_struct Tryz.underlying71 h
  rw [show Tryz.prog.cellsOf 71 = 3 by kernel_rfl] at hlen
  have hys : ys.length = 3 := hyl
  match cs, hlen with
  | [c0, c1, c2], _ =>
    have k0 : DataW.trod enc Tryz.prog W base sp hd m 9 [c0] = some (ys[0]'(by omega)) := by
      rw [← List.getElem?_eq_getElem, ← hf 0 _ rfl]
      first | rfl | (show _ = DataW.trod _ _ _ _ _ _ _ _ (List.take (Tryz.prog.cellsOf 9) _); rw [show Tryz.prog.cellsOf 9 = 1 by kernel_rfl]; rfl)
    obtain ⟨s0, e0, _, hs0⟩ := DataW.trod_string Tryz.underlying9 k0
    have k1 : DataW.trod enc Tryz.prog W base sp hd m 9 [c1] = some (ys[1]'(by omega)) := by
      rw [← List.getElem?_eq_getElem, ← hf 1 _ rfl]
      first | rfl | (show _ = DataW.trod _ _ _ _ _ _ _ _ (List.take (Tryz.prog.cellsOf 9) _); rw [show Tryz.prog.cellsOf 9 = 1 by kernel_rfl]; rfl)
    obtain ⟨s1, e1, _, hs1⟩ := DataW.trod_string Tryz.underlying9 k1
    have k2 : DataW.trod enc Tryz.prog W base sp hd m 3 [c2] = some (ys[2]'(by omega)) := by
      rw [← List.getElem?_eq_getElem, ← hf 2 _ rfl]
      first | rfl | (show _ = DataW.trod _ _ _ _ _ _ _ _ (List.take (Tryz.prog.cellsOf 3) _); rw [show Tryz.prog.cellsOf 3 = 1 by kernel_rfl]; rfl)
    obtain ⟨p2, e2, _, _⟩ := DataW.trod_int Tryz.underlying3 k2
    simp at e0 e1 e2
    subst e0
    subst e1
    subst e2
    exact ⟨⟨s0.data.toList, s1.data.toList, p2⟩, by simp [wncells, txt_data], ⟨by show s0.data.toList.length ≤ _; rw [← Lib.size_eq]; exact hs0, by show s1.data.toList.length ≤ _; rw [← Lib.size_eq]; exact hs1⟩⟩
end Go.Proofs.YtlifaeleoiodkaaGreatDoor
