/-
  A LOGGER DROPPED: DropLogger of the program and of the model. By gen_dl3.py.
-/
import Derived.Test.YtioegkcekbkblaaGreatZxDL1
import Derived.Test.YtioegkcekbkblaaGreatZxDL2
import Derived.Test.YtioegkcekbkblaaGreatZxCM
import Derived.Test.YtioegkcekbkblaaGreatZxHeld
namespace Go.Proofs.YtioegkcekbkblaaGreat
open Go.RowKit Nm
set_option linter.unusedSimpArgs false
set_option linter.unusedVariables false

theorem flat_takeD {α : Type} {f : α → List Value} {d : Nat} (hf : ∀ x, (f x).length = d) (l : List α) (k : Nat) : (l.flatMap f).take (k * d) = (l.take k).flatMap f := by
  induction l generalizing k with
  | nil => simp
  | cons a l ih =>
    cases k with
    | zero => simp
    | succ k =>
      rw [List.flatMap_cons, List.take_succ_cons, List.flatMap_cons, show (k + 1) * d = (f a).length + k * d by rw [hf, Nat.succ_mul]; omega, List.take_length_add_append, ih]
theorem sub_flatM {α β : Type} {f : α → List β} {l l' : List α} (h : l'.Sublist l) : (l'.flatMap f).Sublist (l.flatMap f) := by
  induction h with
  | slnil => exact List.Sublist.refl _
  | cons a _ ih => rw [List.flatMap_cons]; exact ih.trans (List.sublist_append_right _ _)
  | cons_cons a _ ih => rw [List.flatMap_cons, List.flatMap_cons]; exact (List.Sublist.refl _).append ih
theorem treeL_slices {W : World} {lo n1 n2 : Nat} {v1 v2 : Value} {ls : List LgrV} {hs : List HndV} (hr : Rows W lo (treeRows n1 v1 ls n2 v2 hs)) : (∀ u ∈ ls.flatMap lcells, u.oneCell' = true) ∧ (∀ u ∈ hs.flatMap hcells, u.oneCell' = true) := by
  obtain ⟨hl, hh⟩ := hr.lsIn
  refine ⟨lgrs_one ls fun x hx => ?_, hnds_one hs fun x hx => ?_⟩
  · obtain ⟨a, b⟩ := hl.2 x hx
    obtain ⟨A, c, e, _⟩ := a.form
    obtain ⟨A', c', e', _⟩ := b.form
    exact ⟨⟨A, _, c, e⟩, ⟨A', _, c', e'⟩⟩
  · obtain ⟨A, c, e, _⟩ := (hh.2 x hx).form
    exact ⟨A, _, c, e⟩
end Go.Proofs.YtioegkcekbkblaaGreat
