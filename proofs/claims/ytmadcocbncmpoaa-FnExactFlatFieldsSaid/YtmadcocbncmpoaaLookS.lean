/-
  N12, N13, N14, N15 laid together.
-/
import Derived.Test.YtmadcocbncmpoaaLookI
import Derived.Test.YtmadcocbncmpoaaHelps
import Derived.StillTailTactics
import Derived.Deep.RegionHeld3
/-
  WALKS: the model's NearestTo, PathOf, ParentOf.
-/
namespace Go.Proofs.Ytmadcocbncmpoaa
open Go.RowKit Nm
set_option linter.unusedSimpArgs false
set_option linter.unusedVariables false

end Go.Proofs.Ytmadcocbncmpoaa

/-
  WALKS: the model's ParentOf, BranchOf, ChildrenOf.
-/
namespace Go.Proofs.Ytmadcocbncmpoaa
open Go.RowKit Nm
set_option linter.unusedSimpArgs false
set_option linter.unusedVariables false

theorem path_second {ns : List Name} (hok : ∀ z ∈ ns, nameOk z = true) (h0 : ns[0]? = some []) {x : Name} (hr : ns.getD (nearN ns x) [] ≠ []) : (pathN ns x)[1]? = some (upN ns (nearN ns x)) := by
  unfold pathN
  obtain ⟨g, hg, e⟩ := pathF_up (ns := ns) (f := 4) hr (depth_le hok _)
  rw [e]
  cases g with
  | zero => omega
  | succ g => simp only [List.getElem?_cons_succ, pathF]; split <;> rfl
theorem near_self {ns : List Name} (h0 : ns[0]? = some []) (hn : ns.Nodup) {x : Name} (hm : x ∈ ns) : nearN ns x < ns.length ∧ ns.getD (nearN ns x) [] = x := by
  obtain ⟨j, hj, e⟩ := List.getElem_of_mem hm
  have e2 : ns[j]? = some x := by rw [List.getElem?_eq_getElem hj, e]
  rw [near_hit h0 hn _ _ e2]
  exact ⟨hj, at_getD e2⟩

end Go.Proofs.Ytmadcocbncmpoaa

/-
  WALKS: the model's BranchOf, ChildrenOf.
-/
namespace Go.Proofs.Ytmadcocbncmpoaa
open Go.RowKit Nm
set_option linter.unusedSimpArgs false
set_option linter.unusedVariables false

theorem eq_boolN (a b : ByteArray) : ∃ z, (a.toList == b.toList) = z ∧ decide (a.data.toList = b.data.toList) = z := ⟨_, rfl, (beq_txt a b).symm⟩

end Go.Proofs.Ytmadcocbncmpoaa

/-
  WALKS: the model's effective, EffectiveLevel, enabled, IsEnabled.
-/
namespace Go.Proofs.Ytmadcocbncmpoaa
open Go.RowKit Nm
set_option linter.unusedSimpArgs false
set_option linter.unusedVariables false

theorem txt_len {n : Nat} (h : n ≤ maxTxt) : n ≤ maxLen := by unfold maxTxt at h; unfold maxLen; omega
theorem lvAt_nonneg {L : List Lgr} (h : ∀ l ∈ L, 0 ≤ l.lv) (k : Nat) : 0 ≤ lvAt L k := by
  unfold lvAt
  by_cases hk : k < L.length
  · have e : (L.map (·.lv)).getD k 0 = L[k].lv := by simp [List.getD, hk]
    rw [e]; exact h _ (List.getElem_mem _)
  · have e : (L.map (·.lv)).getD k 0 = 0 := by simp [List.getD, Nat.le_of_not_lt hk]
    rw [e]; exact Int.le_refl _
theorem firstLv_at {l : List Int} {k : Nat} {a : Int} (h : ∀ x ∈ l.take k, ¬ 0 < x) (hk : l[k]? = some a) (ha : 0 < a) : firstLv l = a := by
  rw [firstLv_skip h]
  have e : l.drop k = a :: l.drop (k + 1) := by
    have hl := (List.getElem?_eq_some_iff.1 hk)
    rw [List.drop_eq_getElem_cons hl.1, hl.2]
  rw [e, firstLv, if_pos ha]
theorem firstLv_none {l : List Int} (h : ∀ x ∈ l, ¬ 0 < x) : firstLv l = 0 := by
  rw [firstLv_skip (k := l.length) (by rw [List.take_length]; exact h), List.drop_length]; rfl

end Go.Proofs.Ytmadcocbncmpoaa
