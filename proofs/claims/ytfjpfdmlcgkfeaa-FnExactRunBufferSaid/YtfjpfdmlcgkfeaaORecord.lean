/-
  Record: an argument that holds it, as cells. By gen_open.py.
-/
import Derived.Test.YtfjpfdmlcgkfeaaGM
import Derived.Test.YtfjpfdmlcgkfeaaHelps
namespace Go.Proofs.Ytfjpfdmlcgkfeaa
open Go.RowKit Nm Go.ChangeShapes Go.WideShapes Go.Deep
set_option linter.unusedSimpArgs false
set_option linter.unusedVariables false

instance : Inhabited Rec := ⟨⟨[], 0, [], 0⟩⟩
set_option maxRecDepth 100000 in
theorem openRecord {H : Type} {enc : TypeId × Value → H} {W : World} {base n : Nat} {sp : Nat → Bool} {hd : Bool} {cs : List Value} {x : DataW H × List MemPlace}
    (h : DataW.trod enc Try.prog W base sp hd n 50 cs = some x) : ∃ y : Rec, cs = rcells y ∧ (y.nm.length ≤ maxLen ∧ y.tx.length ≤ maxLen) := by
  obtain ⟨ys, m, _, _, hlen, hyl, hf⟩ := DataW.trod_struct Try.underlying50 h
  rw [show Try.prog.cellsOf 50 = 4 by kernel_rfl] at hlen
  have hys : ys.length = 4 := hyl
  match cs, hlen with
  | [c0, c1, c2, c3], _ =>
    have k0 : DataW.trod enc Try.prog W base sp hd m 9 [c0] = some (ys[0]'(by omega)) := by
      rw [← List.getElem?_eq_getElem, ← hf 0 _ rfl]
      first | rfl | (show _ = DataW.trod _ _ _ _ _ _ _ _ (List.take (Try.prog.cellsOf 9) _); rw [show Try.prog.cellsOf 9 = 1 by kernel_rfl]; rfl)
    obtain ⟨s0, e0, _, hs0⟩ := DataW.trod_string Try.underlying9 k0
    have k1 : DataW.trod enc Try.prog W base sp hd m 3 [c1] = some (ys[1]'(by omega)) := by
      rw [← List.getElem?_eq_getElem, ← hf 1 _ rfl]
      first | rfl | (show _ = DataW.trod _ _ _ _ _ _ _ _ (List.take (Try.prog.cellsOf 3) _); rw [show Try.prog.cellsOf 3 = 1 by kernel_rfl]; rfl)
    obtain ⟨p1, e1, _, _⟩ := DataW.trod_int Try.underlying3 k1
    have k2 : DataW.trod enc Try.prog W base sp hd m 9 [c2] = some (ys[2]'(by omega)) := by
      rw [← List.getElem?_eq_getElem, ← hf 2 _ rfl]
      first | rfl | (show _ = DataW.trod _ _ _ _ _ _ _ _ (List.take (Try.prog.cellsOf 9) _); rw [show Try.prog.cellsOf 9 = 1 by kernel_rfl]; rfl)
    obtain ⟨s2, e2, _, hs2⟩ := DataW.trod_string Try.underlying9 k2
    have k3 : DataW.trod enc Try.prog W base sp hd m 3 [c3] = some (ys[3]'(by omega)) := by
      rw [← List.getElem?_eq_getElem, ← hf 3 _ rfl]
      first | rfl | (show _ = DataW.trod _ _ _ _ _ _ _ _ (List.take (Try.prog.cellsOf 3) _); rw [show Try.prog.cellsOf 3 = 1 by kernel_rfl]; rfl)
    obtain ⟨p3, e3, _, _⟩ := DataW.trod_int Try.underlying3 k3
    simp at e0 e1 e2 e3
    subst e0
    subst e1
    subst e2
    subst e3
    exact ⟨⟨s0.data.toList, p1, s2.data.toList, p3⟩, by simp [rcells, txt_data], ⟨by show s0.data.toList.length ≤ _; rw [← Lib.size_eq]; exact hs0, by show s2.data.toList.length ≤ _; rw [← Lib.size_eq]; exact hs2⟩⟩
end Go.Proofs.Ytfjpfdmlcgkfeaa
