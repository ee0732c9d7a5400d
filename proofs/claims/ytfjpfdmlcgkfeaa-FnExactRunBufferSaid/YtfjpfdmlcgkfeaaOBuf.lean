/-
  Buffer: an argument that holds it, as cells. By gen_kind.py.
-/
import Derived.Test.YtfjpfdmlcgkfeaaKBuf
import Derived.Test.YtfjpfdmlcgkfeaaORecord
namespace Go.Proofs.Ytfjpfdmlcgkfeaa
open Go.RowKit Nm Go.ChangeShapes Go.WideShapes Go.Deep
set_option linter.unusedSimpArgs false
set_option linter.unusedVariables false

set_option maxRecDepth 100000 in
theorem openBuffer {H : Type} {enc : TypeId × Value → H} {W : World} {base n : Nat} {sp : Nat → Bool} {hd : Bool} {cs : List Value} {x : DataW H × List MemPlace}
    (h : DataW.trod enc Try.prog W base sp hd n 24 cs = some x) :
    ∃ A n c d, cs = [.int .i64 d.rm, .int .i64 d.lv, .slice A n c] ∧ BufRaw W W.heap.size A n c d := by
  obtain ⟨ys, m, _, _, hlen, hyl, hf⟩ := DataW.trod_struct Try.underlying24 h
  rw [show Try.prog.cellsOf 24 = 3 by kernel_rfl] at hlen
  have hys : ys.length = 3 := hyl
  match cs, hlen with
  | [c0, c1, c2], _ =>
    have k0 : DataW.trod enc Try.prog W base sp hd m 3 [c0] = some (ys[0]'(by omega)) := by
      rw [← List.getElem?_eq_getElem, ← hf 0 _ rfl]
      first | rfl | (show _ = DataW.trod _ _ _ _ _ _ _ _ (List.take (Try.prog.cellsOf 3) _); rw [show Try.prog.cellsOf 3 = 1 by kernel_rfl]; rfl)
    have k1 : DataW.trod enc Try.prog W base sp hd m 3 [c1] = some (ys[1]'(by omega)) := by
      rw [← List.getElem?_eq_getElem, ← hf 1 _ rfl]
      first | rfl | (show _ = DataW.trod _ _ _ _ _ _ _ _ (List.take (Try.prog.cellsOf 3) _); rw [show Try.prog.cellsOf 3 = 1 by kernel_rfl]; rfl)
    have k2 : DataW.trod enc Try.prog W base sp hd m 22 [c2] = some (ys[2]'(by omega)) := by
      rw [← List.getElem?_eq_getElem, ← hf 2 _ rfl]
      first | rfl | (show _ = DataW.trod _ _ _ _ _ _ _ _ (List.take (Try.prog.cellsOf 22) _); rw [show Try.prog.cellsOf 22 = 1 by kernel_rfl]; rfl)
    obtain ⟨p0, e0, _, _⟩ := DataW.trod_int Try.underlying3 k0
    obtain ⟨p1, e1, _, _⟩ := DataW.trod_int Try.underlying3 k1
    obtain ⟨l2, n2, s2, m2⟩ := open_rows rcells 4 rcells_len (by omega) (fun y => y.nm.length ≤ maxLen ∧ y.tx.length ≤ maxLen) Try.underlying22 (by kernel_rfl) (fun _ _ _ h => openRecord h) k2
    obtain ⟨A2, q2, rfl, _, _⟩ := s2.form
    simp at e0 e1
    subst e0
    subst e1
    exact ⟨A2, n2, q2, ⟨p0, p1, l2⟩, by simp [txt_data], ⟨s2, m2⟩⟩
end Go.Proofs.Ytfjpfdmlcgkfeaa
