/-
  Rule: an argument that holds it, as cells. By gen_open.py.
-/
import Derived.Test.YtlifaeleoiodkaaGreatDoorGRule
import Derived.Test.YtlifaeleoiodkaaGreatDoorHelps
namespace Go.Proofs.YtlifaeleoiodkaaGreatDoor
open Go.RowKit Nm Go.ChangeShapes Go.WideShapes Go.Deep
set_option linter.unusedSimpArgs false
set_option linter.unusedVariables false

instance : Inhabited Rul := ⟨⟨0, [], [], 0⟩⟩
set_option maxRecDepth 100000 in
theorem openRule {H : Type} {enc : TypeId × Value → H} {W : World} {base n : Nat} {sp : Nat → Bool} {hd : Bool} {cs : List Value} {x : DataW H × List MemPlace}
    (h : DataW.trod enc Tryz.prog W base sp hd n 69 cs = some x) : ∃ y : Rul, cs = rucells y ∧ (y.wd.length ≤ maxLen ∧ y.md.length ≤ maxLen) := by
  obtain ⟨ys, m, _, _, hlen, hyl, hf⟩ := DataW.trod_struct Tryz.underlying69 h
  rw [show Tryz.prog.cellsOf 69 = 4 by kernel_rfl] at hlen
  have hys : ys.length = 4 := hyl
  match cs, hlen with
  | [c0, c1, c2, c3], _ =>
    have k0 : DataW.trod enc Tryz.prog W base sp hd m 3 [c0] = some (ys[0]'(by omega)) := by
      rw [← List.getElem?_eq_getElem, ← hf 0 _ rfl]
      first | rfl | (show _ = DataW.trod _ _ _ _ _ _ _ _ (List.take (Tryz.prog.cellsOf 3) _); rw [show Tryz.prog.cellsOf 3 = 1 by kernel_rfl]; rfl)
    obtain ⟨p0, e0, _, _⟩ := DataW.trod_int Tryz.underlying3 k0
    have k1 : DataW.trod enc Tryz.prog W base sp hd m 9 [c1] = some (ys[1]'(by omega)) := by
      rw [← List.getElem?_eq_getElem, ← hf 1 _ rfl]
      first | rfl | (show _ = DataW.trod _ _ _ _ _ _ _ _ (List.take (Tryz.prog.cellsOf 9) _); rw [show Tryz.prog.cellsOf 9 = 1 by kernel_rfl]; rfl)
    obtain ⟨s1, e1, _, hs1⟩ := DataW.trod_string Tryz.underlying9 k1
    have k2 : DataW.trod enc Tryz.prog W base sp hd m 9 [c2] = some (ys[2]'(by omega)) := by
      rw [← List.getElem?_eq_getElem, ← hf 2 _ rfl]
      first | rfl | (show _ = DataW.trod _ _ _ _ _ _ _ _ (List.take (Tryz.prog.cellsOf 9) _); rw [show Tryz.prog.cellsOf 9 = 1 by kernel_rfl]; rfl)
    obtain ⟨s2, e2, _, hs2⟩ := DataW.trod_string Tryz.underlying9 k2
    have k3 : DataW.trod enc Tryz.prog W base sp hd m 3 [c3] = some (ys[3]'(by omega)) := by
      rw [← List.getElem?_eq_getElem, ← hf 3 _ rfl]
      first | rfl | (show _ = DataW.trod _ _ _ _ _ _ _ _ (List.take (Tryz.prog.cellsOf 3) _); rw [show Tryz.prog.cellsOf 3 = 1 by kernel_rfl]; rfl)
    obtain ⟨p3, e3, _, _⟩ := DataW.trod_int Tryz.underlying3 k3
    simp at e0 e1 e2 e3
    subst e0
    subst e1
    subst e2
    subst e3
    exact ⟨⟨p0, s1.data.toList, s2.data.toList, p3⟩, by simp [rucells, txt_data], ⟨by show s1.data.toList.length ≤ _; rw [← Lib.size_eq]; exact hs1, by show s2.data.toList.length ≤ _; rw [← Lib.size_eq]; exact hs2⟩⟩
end Go.Proofs.YtlifaeleoiodkaaGreatDoor
