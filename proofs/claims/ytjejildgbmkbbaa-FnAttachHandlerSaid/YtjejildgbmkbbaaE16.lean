/-
  PLAIN: trees with the level of one logger changed.
-/
import Derived.Test.YtjejildgbmkbbaaE15
namespace Go.Proofs.Ytjejildgbmkbbaa
open Go.RowKit Nm
set_option linter.unusedSimpArgs false
set_option linter.unusedVariables false

theorem lv_cases (L : List Lgr) (H : List Hnd) (q : Int) (s : Name) (a : Int) : lgrX L H q s (setLevelF a) = none ∨
    ∃ (k : Nat) (l : Lgr), L[k]? = some l ∧ l.nm = s ∧ idxL (namesOf L) s = (k : Int) ∧ treeOk L H q = true ∧ treeOk (updL L k (setLevelF a)) H q = true ∧ lgrX L H q s (setLevelF a) = some (updL L k (setLevelF a), H, q) ∧ lgrX (updL L k (setLevelF a)) H q s (setLevelF l.lv) = some (L, H, q) := by
  unfold lgrX changedO
  by_cases hneg : idxL (namesOf L) s < 0
  · exact .inl (by rw [if_pos hneg])
  · obtain ⟨k, hk⟩ : ∃ k : Nat, idxL (namesOf L) s = (k : Int) := ⟨_, (Int.toNat_of_nonneg (by omega)).symm⟩
    obtain ⟨hkl, hks⟩ := idx_nat hk
    cases h1 : treeOk L H q with
    | false => exact .inl (by rw [if_neg hneg]; simp)
    | true =>
      cases h2 : treeOk (updL L k (setLevelF a)) H q with
      | false =>
        refine .inl ?_
        rw [if_neg hneg, hk]
        simp only [Int.toNat_natCast, if_true, Option.bind_some]
        unfold ifOk
        rw [h2]; rfl
      | true =>
        refine .inr ?_
        obtain ⟨l, hl⟩ : ∃ l, L[k]? = some l := ⟨_, List.getElem?_eq_getElem (by unfold namesOf at hkl; simpa using hkl)⟩
        have hn : l.nm = s := by unfold namesOf at hks; rw [List.getElem?_map, hl] at hks; exact Option.some.inj hks
        refine ⟨k, l, hl, hn, hk, rfl, h2, ?_, ?_⟩
        · rw [if_neg hneg, hk]
          simp only [Int.toNat_natCast, if_true, Option.bind_some]
          unfold ifOk
          rw [h2]; rfl
        · rw [names_upd (f := setLevelF a) (fun _ => rfl) L k, if_neg hneg, hk, h2]
          simp only [Int.toNat_natCast, if_true, Option.bind_some]
          have e : updL (updL L k (setLevelF a)) k (setLevelF l.lv) = L := by rw [upd_upd hl]; exact set_same hl
          rw [e]
          unfold ifOk
          rw [h1]; rfl
theorem lvAt_other {L : List Lgr} {k j : Nat} (a : Int) (hj : j ≠ k) : lvAt (updL L k (setLevelF a)) j = lvAt L j := by rw [lvAt_eq, lvAt_eq, get_upd _ _ hj]
theorem lvAt_here {L : List Lgr} {k : Nat} {l : Lgr} (a : Int) (hl : L[k]? = some l) : lvAt (updL L k (setLevelF a)) k = a := by rw [lvAt_eq, upd_at hl, set_at hl]; rfl
theorem below_up {ns : List Name} (h0 : ns[0]? = some []) (hok : ∀ z ∈ ns, nameOk z = true) {y : Name} (hy : y ∈ ns) (hne : y ≠ []) : belowL y (upName ns y) = true := by
  have h1 := up_parts h0 hok hy hne
  have h2 : y ≠ upName ns y := fun e => by rw [← e] at h1; omega
  rw [up_below h0 (hok y hy) (up_mem h0 y) h2]
  exact belowL_self _
theorem levelF_same {ns : List Name} {lv lv' : Nat → Int} (h0 : ns[0]? = some []) (hok : ∀ z ∈ ns, nameOk z = true) {k : Nat} (hl : ∀ j, j ≠ k → lv' j = lv j) :
    ∀ (f j : Nat), j < ns.length → belowL (ns.getD j []) (ns.getD k []) = false → levelF ns lv' f j = levelF ns lv f j := by
  intro f
  induction f with
  | zero =>
    intro j hj hb
    have hjk : j ≠ k := fun e => by rw [e, belowL_self] at hb; cases hb
    exact hl j hjk
  | succ f ih =>
    intro j hj hb
    have hjk : j ≠ k := fun e => by rw [e, belowL_self] at hb; cases hb
    unfold levelF
    rw [hl j hjk]
    split
    · rfl
    · rename_i hc
      have hne : ns.getD j [] ≠ [] := fun e => hc (.inr e)
      refine ih (upN ns j) (near_lt h0 _) ?_
      cases hb2 : belowL (ns.getD (upN ns j) []) (ns.getD k []) with
      | false => rfl
      | true =>
        have h1 : belowL (ns.getD j []) (ns.getD (upN ns j) []) = true := below_up h0 hok (getD_mem hj) hne
        rw [belowL_trans h1 hb2] at hb; cases hb
theorem lv_same {L : List Lgr} {H : List Hnd} {q : Int} {k : Nat} {l : Lgr} (a : Int) (h : treeOk L H q = true) (h' : treeOk (updL L k (setLevelF a)) H q = true) (hl : L[k]? = some l) {x : Name} (hx : x ∈ nsOf L) (hb : isB x l.nm = false) :
    levelT (updL L k (setLevelF a)) H q x = levelT L H q x := by
  obtain ⟨h0, hnd, hnm⟩ := tree_nm h
  obtain ⟨j, hj, ej⟩ := List.getElem_of_mem hx
  have hq : (nsOf L)[j]? = some x := by rw [List.getElem?_eq_getElem hj, ej]
  have hk : (nsOf L)[k]? = some l.nm := by unfold nsOf; rw [List.getElem?_map, hl]; rfl
  have gj : (nsOf L).getD j [] = x := by simp [List.getD, hq]
  have gk : (nsOf L).getD k [] = l.nm := by simp [List.getD, hk]
  have hb2 : belowL x l.nm = false := by
    unfold isB at hb
    rw [hnm x hx, hnm _ (List.mem_of_getElem? hk)] at hb
    simpa using hb
  unfold levelT
  rw [h, h', hnm x hx]
  simp only [Bool.and_self, if_true]
  unfold levelN
  rw [ns_upd (f := setLevelF a) (fun _ => rfl) L k, near_hit h0 hnd x j hq]
  exact levelF_same h0 hnm (fun i hi => lvAt_other a hi) 4 j hj (by rw [gj, gk]; exact hb2)
theorem lv_set {L : List Lgr} {H : List Hnd} {q : Int} {k : Nat} {l : Lgr} {a : Int} (h : treeOk L H q = true) (h' : treeOk (updL L k (setLevelF a)) H q = true) (hl : L[k]? = some l) (ha : ¬ a = 0) :
    levelT (updL L k (setLevelF a)) H q l.nm = a := by
  obtain ⟨h0, hnd, hnm⟩ := tree_nm h
  have hk : (nsOf L)[k]? = some l.nm := by unfold nsOf; rw [List.getElem?_map, hl]; rfl
  unfold levelT
  rw [h', hnm _ (List.mem_of_getElem? hk)]
  simp only [Bool.and_self, if_true]
  unfold levelN
  rw [ns_upd (f := setLevelF a) (fun _ => rfl) L k, near_hit h0 hnd l.nm k hk]
  have hh := lvAt_here a hl
  unfold levelF
  rw [hh, if_pos (.inl ha)]
theorem isB_names {L : List Lgr} {H : List Hnd} {q : Int} {k : Nat} {l : Lgr} (h : treeOk L H q = true) (hl : L[k]? = some l) : nameOk l.nm = true := (tree_nm h).2.2 _ (List.mem_map.2 ⟨l, List.mem_of_getElem? hl, rfl⟩)
end Go.Proofs.Ytjejildgbmkbbaa
