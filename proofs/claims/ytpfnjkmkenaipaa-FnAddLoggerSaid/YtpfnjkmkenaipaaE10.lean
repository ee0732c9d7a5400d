/-
  DRAWS: a tree and the name of a handler. By gen_e10.py.
-/
import Derived.Test.YtpfnjkmkenaipaaE6
namespace Go.Proofs.Ytpfnjkmkenaipaa
open Go.RowKit Nm
set_option linter.unusedSimpArgs false
set_option linter.unusedVariables false

def hWords : List (List UInt8) := [[104], [110, 111], [108, 97, 115, 116], []]
theorem cellOfH {w : World} {lo g n2 c2 j : Nat} {u : Value} {rs : List Row} {a b : List HndV} {x : HndV} (h : Rows w lo rs) (hm : hsRow n2 (.slice (some ⟨g, 0, none⟩) n2 c2) (a ++ x :: b) ∈ rs) (hj : j < 3) (hu : (hcells x)[j]? = some u) :
    w.cell? ⟨g, a.length * 3 + j, none⟩ = some u ∧ g < w.heap.size ∧ lo ≤ g := by
  have ho : w.ownsRow lo 60 3 (.slice (some ⟨g, 0, none⟩) n2 c2) n2 ((a ++ x :: b).flatMap hcells) := h.1 _ hm
  have hlen := Sl.count hcells_len (Sl.of_own ho) (by omega)
  simp only [List.length_append, List.length_cons] at hlen
  have hx : (a ++ x :: b)[a.length]? = some x := by simp
  have hc := ho.cellAt (a.length * 3 + j) (by omega)
  rw [flat_get hcells 3 hcells_len _ _ _ _ hx hj, hu] at hc
  exact ⟨hc, (ho.lt g rfl).2, (ho.lt g rfl).1⟩

end Go.Proofs.Ytpfnjkmkenaipaa
