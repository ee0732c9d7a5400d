/-
  TREES copied: the program's copyTree.
-/
import Derived.Test.YteekkccgdkmjoaaGreatC1
namespace Go.Proofs.YteekkccgdkmjoaaGreat
open Go.RowKit Nm
set_option linter.unusedSimpArgs false
set_option linter.unusedVariables false

theorem take_set {α : Type} {l : List α} {k : Nat} {x : α} (h : l[k]? = some x) (y : α) : (l.set k y).take (k + 1) = l.take k ++ [y] := by
  rw [List.take_add_one, set_at h, List.take_set_of_le (Nat.le_refl _)]; rfl
theorem lsOf_set {l : List LgrV} {k : Nat} {x y : LgrV} (h : l[k]? = some x) (e : y.l = x.l) : lsOf (l.set k y) = lsOf l := by
  unfold lsOf
  rw [List.map_set, e]
  refine List.ext_getElem? fun j => ?_
  by_cases hj : j = k
  · subst hj
    rw [List.getElem?_set_self (by rw [List.length_map]; exact (List.getElem?_eq_some_iff.1 h).1), List.getElem?_map, h]; rfl
  · rw [List.getElem?_set_ne (by omega)]
theorem hsOf_set {l : List HndV} {k : Nat} {x y : HndV} (h : l[k]? = some x) (e : y.h = x.h) : hsOf (l.set k y) = hsOf l := by
  unfold hsOf
  rw [List.map_set, e]
  refine List.ext_getElem? fun j => ?_
  by_cases hj : j = k
  · subst hj
    rw [List.getElem?_set_self (by rw [List.length_map]; exact (List.getElem?_eq_some_iff.1 h).1), List.getElem?_map, h]; rfl
  · rw [List.getElem?_set_ne (by omega)]
theorem perm_two (a b : Row) (l m : List Row) : ([a] ++ [b] ++ l ++ m).Perm (l ++ (m ++ [b, a])) := by
  have h1 : ([a] ++ [b] ++ l ++ m).Perm ((l ++ m) ++ [b, a]) := by
    rw [List.append_assoc]
    exact List.perm_append_comm.trans ((List.Perm.swap b a []).append_left _)
  simp only [List.append_assoc] at h1 ⊢
  exact h1
theorem flat_nil {α : Type} (l : List α) : l.flatMap (fun _ => ([] : List Row)) = [] := by
  induction l with
  | nil => rfl
  | cons a l ih => rw [List.flatMap_cons, ih]; rfl
theorem perm_one (a : Row) (p l m : List Row) : ([a] ++ p ++ l ++ m).Perm (p ++ l ++ (m ++ [a])) := by
  have h1 : ([a] ++ (p ++ l ++ m)).Perm ((p ++ l ++ m) ++ [a]) := List.perm_append_comm
  simp only [List.append_assoc] at h1 ⊢
  exact h1
theorem tree_small {L : List Lgr} {H : List Hnd} {q : Int} (h : treeOk L H q = true) : (∀ l ∈ L, l.fs.length ≤ 3) ∧ (∀ x ∈ H, x.fs.length ≤ 3) ∧ H.length ≤ 6 := by
  unfold treeOk lgrsOk hndsOk at h
  simp only [Bool.and_eq_true, decide_eq_true_eq, List.all_eq_true] at h
  obtain ⟨_, ⟨h1, h2, h3⟩, h4, _⟩ := h
  refine ⟨fun l hl => ?_, fun x hx => ?_, h3⟩
  · have := h4 l hl
    unfold lgrOk filtersOk at this
    simp only [Bool.and_eq_true, decide_eq_true_eq] at this
    exact this.2.2.1.2
  · have := h1 x hx
    unfold hndOk filtersOk at this
    simp only [Bool.and_eq_true, decide_eq_true_eq] at this
    exact this.2.2.2.2

end Go.Proofs.YteekkccgdkmjoaaGreat
