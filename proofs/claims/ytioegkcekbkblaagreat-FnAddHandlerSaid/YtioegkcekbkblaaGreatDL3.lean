/-
  A LOGGER DROPPED: DropLogger of the program and of the model. By gen_dl3.py.
-/
import Derived.Test.YtioegkcekbkblaaGreatDL1
import Derived.Test.YtioegkcekbkblaaGreatDL2
import Derived.Test.YtioegkcekbkblaaGreatCM
import Derived.Test.YtioegkcekbkblaaGreatHeld
namespace Go.Proofs.YtioegkcekbkblaaGreat
open Go.RowKit Nm
set_option linter.unusedSimpArgs false
set_option linter.unusedVariables false

theorem flat_takeD {α : Type} {f : α → List Value} {d : Nat} (hf : ∀ x, (f x).length = d) (l : List α) (k : Nat) : (l.flatMap f).take (k * d) = (l.take k).flatMap f := by
  induction l generalizing k with
  | nil => simp
  | cons a l ih =>
    cases k with
    | zero => simp
    | succ k =>
      rw [List.flatMap_cons, List.take_succ_cons, List.flatMap_cons, show (k + 1) * d = (f a).length + k * d by rw [hf, Nat.succ_mul]; omega, List.take_length_add_append, ih]
theorem flat_dropD {α : Type} {f : α → List Value} {d : Nat} (hf : ∀ x, (f x).length = d) (l : List α) (k : Nat) : (l.flatMap f).drop (k * d) = (l.drop k).flatMap f := by
  induction l generalizing k with
  | nil => simp
  | cons a l ih =>
    cases k with
    | zero => simp
    | succ k =>
      rw [List.flatMap_cons, List.drop_succ_cons, show (k + 1) * d = (f a).length + k * d by rw [hf, Nat.succ_mul]; omega, List.drop_length_add_append, ih]
theorem flat_erase {α : Type} {f : α → List Value} {d : Nat} (hf : ∀ x, (f x).length = d) (l : List α) (k : Nat) : (l.flatMap f).take (k * d) ++ (l.flatMap f).drop ((k + 1) * d) = (l.eraseIdx k).flatMap f := by
  rw [flat_takeD hf, flat_dropD hf, List.eraseIdx_eq_take_drop_succ, List.flatMap_append]
theorem sub_flatM {α β : Type} {f : α → List β} {l l' : List α} (h : l'.Sublist l) : (l'.flatMap f).Sublist (l.flatMap f) := by
  induction h with
  | slnil => exact List.Sublist.refl _
  | cons a _ ih => rw [List.flatMap_cons]; exact ih.trans (List.sublist_append_right _ _)
  | cons_cons a _ ih => rw [List.flatMap_cons, List.flatMap_cons]; exact (List.Sublist.refl _).append ih
theorem lsOf_erase (ls : List LgrV) (k : Nat) : lsOf (ls.eraseIdx k) = (lsOf ls).eraseIdx k := by
  unfold lsOf
  rw [List.eraseIdx_eq_take_drop_succ, List.eraseIdx_eq_take_drop_succ, List.map_append, List.map_take, List.map_drop]
theorem hsOf_erase (hs : List HndV) (k : Nat) : hsOf (hs.eraseIdx k) = (hsOf hs).eraseIdx k := by
  unfold hsOf
  rw [List.eraseIdx_eq_take_drop_succ, List.eraseIdx_eq_take_drop_succ, List.map_append, List.map_take, List.map_drop]
theorem treeL_slices {W : World} {lo n1 n2 : Nat} {v1 v2 : Value} {ls : List LgrV} {hs : List HndV} (hr : Rows W lo (treeRows n1 v1 ls n2 v2 hs)) : (∀ u ∈ ls.flatMap lcells, u.oneCell' = true) ∧ (∀ u ∈ hs.flatMap hcells, u.oneCell' = true) := by
  obtain ⟨hl, hh⟩ := hr.lsIn
  refine ⟨lgrs_one ls fun x hx => ?_, hnds_one hs fun x hx => ?_⟩
  · obtain ⟨a, b⟩ := hl.2 x hx
    obtain ⟨A, c, e, _⟩ := a.form
    obtain ⟨A', c', e', _⟩ := b.form
    exact ⟨⟨A, _, c, e⟩, ⟨A', _, c', e'⟩⟩
  · obtain ⟨A, c, e, _⟩ := (hh.2 x hx).form
    exact ⟨A, _, c, e⟩
/-- a tree without a logger -/
theorem tree_del {W W' : World} {lo n m k : Nat} {v1 v1' v2 : Value} {ls : List LgrV} {hs : List HndV} (hn : n = ls.length) (hk : k < ls.length) (hm : m + 1 = n) (hr : Rows W lo (treeRows n v1 ls hs.length v2 hs))
    (ho : W'.ownsRow lo 72 6 v1' m ((ls.flatMap lcells).take (k * 6) ++ (ls.flatMap lcells).drop ((k + 1) * 6))) (hg : W.grownBy W' v1.ownBlock) (hv : v1'.ownBlock = v1.ownBlock) :
    Rows W' lo (treeRows (ls.eraseIdx k).length v1' (ls.eraseIdx k) hs.length v2 hs) ∧ ∀ b, (∀ r ∈ treeRows n v1 ls hs.length v2 hs, r.v.ownBlock ≠ some b) → ∀ r ∈ treeRows (ls.eraseIdx k).length v1' (ls.eraseIdx k) hs.length v2 hs, r.v.ownBlock ≠ some b := by
  subst hn
  rw [flat_erase lcells_len] at ho
  have h0 : Rows W lo ([] ++ ⟨72, 6, ls.length, v1, ls.flatMap lcells⟩ :: (ls.flatMap lrows ++ two 47 3 hs.length v2 hcells hrows hs)) := by
    rw [treeRows_eq] at hr
    simpa [two] using hr
  have h1 := Rows.app h0 hg ho (.inl hv)
  have hlen : (ls.eraseIdx k).length = m := by rw [List.length_eraseIdx, if_pos hk]; omega
  have ht : treeRows (ls.eraseIdx k).length v1' (ls.eraseIdx k) hs.length v2 hs = ⟨72, 6, m, v1', (ls.eraseIdx k).flatMap lcells⟩ :: ((ls.eraseIdx k).flatMap lrows ++ two 47 3 hs.length v2 hcells hrows hs) := by
    rw [treeRows_eq, two, hlen]; simp
  have hsub : ((ls.eraseIdx k).flatMap lrows).Sublist (ls.flatMap lrows) := sub_flatM (List.eraseIdx_sublist _ _)
  rw [ht]
  refine ⟨h1.sub (List.Sublist.cons_cons _ (hsub.append (List.Sublist.refl _))), fun b hb r hr' => ?_⟩
  rw [treeRows_eq] at hb
  rcases List.mem_cons.1 hr' with rfl | hr'
  · show v1'.ownBlock ≠ _
    rw [hv]
    exact hb ⟨72, 6, ls.length, v1, ls.flatMap lcells⟩ (by simp [two])
  · rcases List.mem_append.1 hr' with hr' | hr'
    · exact hb r (List.mem_append.2 (.inl (by simp only [two, List.mem_cons]; exact .inr (hsub.subset hr'))))
    · exact hb r (List.mem_append.2 (.inr hr'))

end Go.Proofs.YtioegkcekbkblaaGreat
