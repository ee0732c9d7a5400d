/-
  Sent: an argument that holds it, as cells. By gen_open.py.
-/
import Derived.Test.YtabjkcejghplkaaGSent
import Derived.Test.YtabjkcejghplkaaO0
import Derived.Test.YtabjkcejghplkaaORecord
namespace Go.Proofs.Ytabjkcejghplkaa
open Go.RowKit Nm Go.ChangeShapes Go.WideShapes Go.Deep
set_option linter.unusedSimpArgs false
set_option linter.unusedVariables false

instance : Inhabited Snt := ⟨⟨[], [], default⟩⟩
set_option maxRecDepth 100000 in
theorem openSent {H : Type} {enc : TypeId × Value → H} {W : World} {base n : Nat} {sp : Nat → Bool} {hd : Bool} {cs : List Value} {x : DataW H × List MemPlace}
    (h : DataW.trod enc Try.prog W base sp hd n 78 cs = some x) : ∃ y : Snt, cs = sncells y ∧ (y.lg.length ≤ maxLen ∧ y.hd.length ≤ maxLen ∧ y.rc.nm.length ≤ maxLen ∧ y.rc.tx.length ≤ maxLen) := by
  obtain ⟨ys, m, _, _, hlen, hyl, hf⟩ := DataW.trod_struct Try.underlying78 h
  rw [show Try.prog.cellsOf 78 = 6 by kernel_rfl] at hlen
  have hys : ys.length = 3 := hyl
  match cs, hlen with
  | [c0, c1, c2, c3, c4, c5], _ =>
    have k0 : DataW.trod enc Try.prog W base sp hd m 9 [c0] = some (ys[0]'(by omega)) := by
      rw [← List.getElem?_eq_getElem, ← hf 0 _ rfl]
      first | rfl | (show _ = DataW.trod _ _ _ _ _ _ _ _ (List.take (Try.prog.cellsOf 9) _); rw [show Try.prog.cellsOf 9 = 1 by kernel_rfl]; rfl)
    obtain ⟨s0, e0, _, hs0⟩ := DataW.trod_string Try.underlying9 k0
    have k1 : DataW.trod enc Try.prog W base sp hd m 9 [c1] = some (ys[1]'(by omega)) := by
      rw [← List.getElem?_eq_getElem, ← hf 1 _ rfl]
      first | rfl | (show _ = DataW.trod _ _ _ _ _ _ _ _ (List.take (Try.prog.cellsOf 9) _); rw [show Try.prog.cellsOf 9 = 1 by kernel_rfl]; rfl)
    obtain ⟨s1, e1, _, hs1⟩ := DataW.trod_string Try.underlying9 k1
    have k2 : DataW.trod enc Try.prog W base sp hd m 31 [c2, c3, c4, c5] = some (ys[2]'(by omega)) := by
      rw [← List.getElem?_eq_getElem, ← hf 2 _ rfl]
      first | rfl | (show _ = DataW.trod _ _ _ _ _ _ _ _ (List.take (Try.prog.cellsOf 31) _); rw [show Try.prog.cellsOf 31 = 4 by kernel_rfl]; rfl)
    obtain ⟨y2, e2, hq2⟩ := openRecord k2
    simp only [rcells] at e2
    simp at e0 e1 e2
    subst e0
    subst e1
    obtain ⟨rfl, rfl, rfl, rfl⟩ := e2
    exact ⟨⟨s0.data.toList, s1.data.toList, y2⟩, by simp [sncells, txt_data], ⟨by show s0.data.toList.length ≤ _; rw [← Lib.size_eq]; exact hs0, by show s1.data.toList.length ≤ _; rw [← Lib.size_eq]; exact hs1, hq2.1, hq2.2⟩⟩
end Go.Proofs.Ytabjkcejghplkaa
