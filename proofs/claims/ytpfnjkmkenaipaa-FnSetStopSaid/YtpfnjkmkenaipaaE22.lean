/-
  STOP, plain: a logger's spots are its own, and those of its parent if it does not stop.
-/
import Derived.Test.YtpfnjkmkenaipaaE21
import Derived.Test.YtpfnjkmkenaipaaE16
namespace Go.Proofs.Ytpfnjkmkenaipaa
open Go.RowKit Nm
set_option linter.unusedSimpArgs false
set_option linter.unusedVariables false

theorem treeOk_stop (L : List Lgr) (H : List Hnd) (q : Int) (k : Nat) (b : Bool) : treeOk (updL L k (setStopF b)) H q = treeOk L H q := by
  unfold treeOk lgrsOk
  rw [all_upd (lgrOk H) (f := setStopF b) (fun _ => rfl) L k, map_upd (·.nm) (f := setStopF b) (fun _ => rfl) L k, len_upd]
theorem stop_cases (L : List Lgr) (H : List Hnd) (q : Int) (s : Name) (b : Bool) : lgrX L H q s (setStopF b) = none ∨
    ∃ (k : Nat) (l : Lgr), L[k]? = some l ∧ l.nm = s ∧ treeOk L H q = true ∧ lgrX L H q s (setStopF b) = some (updL L k (setStopF b), H, q) := by
  unfold lgrX changedO
  by_cases hneg : idxL (namesOf L) s < 0
  · exact .inl (by rw [if_pos hneg])
  · obtain ⟨k, hk⟩ : ∃ k : Nat, idxL (namesOf L) s = (k : Int) := ⟨_, (Int.toNat_of_nonneg (by omega)).symm⟩
    obtain ⟨hkl, hks⟩ := idx_nat hk
    cases h1 : treeOk L H q with
    | false => exact .inl (by rw [if_neg hneg]; simp)
    | true =>
      refine .inr ?_
      obtain ⟨l, hl⟩ : ∃ l, L[k]? = some l := ⟨_, List.getElem?_eq_getElem (by unfold namesOf at hkl; simpa using hkl)⟩
      have hn : l.nm = s := by unfold namesOf at hks; rw [List.getElem?_map, hl] at hks; exact Option.some.inj hks
      refine ⟨k, l, hl, hn, rfl, ?_⟩
      rw [if_neg hneg, hk]
      simp only [Int.toNat_natCast, if_true, Option.bind_some]
      unfold ifOk
      rw [treeOk_stop, h1]; rfl
variable {L : List Lgr} {H : List Hnd} {q : Int}
theorem hsAt_stop (k : Nat) (b : Bool) (i : Nat) : hsAt (updL L k (setStopF b)) i = hsAt L i := by unfold hsAt; rw [map_upd (·.hs) (f := setStopF b) (fun _ => rfl) L k]
theorem ownS_stop (k : Nat) (b : Bool) (i : Nat) : ownS (updL L k (setStopF b)) i = ownS L i := by
  unfold ownS; rw [hsAt_stop, ns_upd (f := setStopF b) (fun _ => rfl) L k]
theorem stopAt_eq (L : List Lgr) (j : Nat) : stopAt L j = ((L[j]?).map (·.stop)).getD false := by unfold stopAt; rw [List.getD_eq_getElem?_getD, List.getElem?_map]
theorem stopAt_here {k : Nat} {l : Lgr} (b : Bool) (hl : L[k]? = some l) : stopAt (updL L k (setStopF b)) k = b := by rw [stopAt_eq, upd_at hl, set_at hl]; rfl
theorem stop_spots {k : Nat} {l : Lgr} (b : Bool) (h : treeOk L H q = true) (hl : L[k]? = some l) :
    spotsT (updL L k (setStopF b)) H q l.nm = ownS L k ++ (if (!b && parentB L H q l.nm) = true then spotsT (updL L k (setStopF b)) H q (parentT L H q l.nm) else []) := by
  obtain ⟨h0, hnd, hnm⟩ := tree_nm h
  have hns : nsOf (updL L k (setStopF b)) = nsOf L := ns_upd (f := setStopF b) (fun _ => rfl) L k
  have hok' : treeOk (updL L k (setStopF b)) H q = true := by rw [treeOk_stop]; exact h
  have hq := ns_at hl
  have hk : k < (nsOf L).length := (List.getElem?_eq_some_iff.1 hq).1
  have g : (nsOf L).getD k [] = l.nm := by simp [List.getD, hq]
  have hm : l.nm ∈ nsOf L := List.mem_of_getElem? hq
  have hnn := hnm _ hm
  have hnr := near_hit h0 hnd l.nm k hq
  rw [spots_ok hok' hnn, hns]
  unfold pathN
  rw [hnr]
  by_cases hr : l.nm = []
  · have hp : parentB L H q l.nm = false := by unfold parentB; simp [hr]
    rw [pathF_root (by rw [g]; exact hr), hp, spotsI, ownS_stop]
    cases b <;> simp [spotsI]
  · have hp : parentB L H q l.nm = true := by unfold parentB; simp [hr, h, hm]
    have hu : upN (nsOf L) k < (nsOf L).length := near_lt h0 _
    have e1 : parentT L H q l.nm = (nsOf L).getD (upN (nsOf L) k) [] := by unfold parentT; rw [hp, if_pos rfl, hnr]
    have hq2 : (nsOf L)[upN (nsOf L) k]? = some (parentT L H q l.nm) := by rw [e1, List.getElem?_eq_getElem hu]; simp [List.getD, hu]
    have hd := depth_up h0 hnm hk (by rw [g]; exact hr)
    have hd4 := depth_le hnm k
    rw [pathF_succ _ 3 k, if_neg (by rw [g]; exact hr), spotsI, ownS_stop, stopAt_here b hl, hp, Bool.and_true]
    rw [spots_ok hok' (hnm _ (List.mem_of_getElem? hq2)), hns]
    unfold pathN
    rw [near_hit h0 hnd _ _ hq2, pathF_more h0 hnm 3 _ hu (by omega)]
    cases b <;> rfl
end Go.Proofs.Ytpfnjkmkenaipaa
