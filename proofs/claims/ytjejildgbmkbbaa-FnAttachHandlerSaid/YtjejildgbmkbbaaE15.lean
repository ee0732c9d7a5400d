/-
  PLAIN: trees with one logger changed: what stays.
-/
import Derived.Test.YtjejildgbmkbbaaC9
import Derived.Test.YtjejildgbmkbbaaE12
namespace Go.Proofs.Ytjejildgbmkbbaa
open Go.RowKit Nm
set_option linter.unusedSimpArgs false
set_option linter.unusedVariables false

theorem set_same {α : Type} {l : List α} {k : Nat} {a : α} (h : l[k]? = some a) : l.set k a = l := by
  refine List.ext_getElem? fun i => ?_
  rw [List.getElem?_set]
  split
  · rename_i hi
    subst hi
    obtain ⟨h1, h2⟩ := List.getElem?_eq_some_iff.1 h
    rw [if_pos h1, h]
  · rfl
theorem upd_at {L : List Lgr} {k : Nat} {l : Lgr} (h : L[k]? = some l) (f : Lgr → Lgr) : updL L k f = L.set k (f l) := by unfold updL; rw [h]
theorem map_upd {α : Type} (g : Lgr → α) {f : Lgr → Lgr} (hf : ∀ l, g (f l) = g l) (L : List Lgr) (k : Nat) : (updL L k f).map g = L.map g := by
  cases h : L[k]? with
  | none => unfold updL; rw [h]
  | some l =>
    rw [upd_at h, List.map_set, hf]
    exact set_same (by rw [List.getElem?_map, h]; rfl)
theorem upd_upd {L : List Lgr} {k : Nat} {l : Lgr} (h : L[k]? = some l) (f g : Lgr → Lgr) : updL (updL L k f) k g = L.set k (g (f l)) := by
  rw [upd_at h, upd_at (set_at h (f l)), List.set_set]
theorem ns_upd {f : Lgr → Lgr} (hf : ∀ l, (f l).nm = l.nm) (L : List Lgr) (k : Nat) : nsOf (updL L k f) = nsOf L := map_upd (·.nm) hf L k
theorem names_upd {f : Lgr → Lgr} (hf : ∀ l, (f l).nm = l.nm) (L : List Lgr) (k : Nat) : namesOf (updL L k f) = namesOf L := map_upd (·.nm) hf L k
theorem len_upd (f : Lgr → Lgr) (L : List Lgr) (k : Nat) : (updL L k f).length = L.length := by
  unfold updL; split
  · rw [List.length_set]
  · rfl
theorem lv_upd {f : Lgr → Lgr} (hf : ∀ l, (f l).lv = l.lv) (L : List Lgr) (k j : Nat) : lvAt (updL L k f) j = lvAt L j := by unfold lvAt; rw [map_upd (·.lv) hf]
theorem off_upd {f : Lgr → Lgr} (hf : ∀ l, (f l).off = l.off) (L : List Lgr) (k j : Nat) : offAt (updL L k f) j = offAt L j := by unfold offAt; rw [map_upd (·.off) hf]
theorem get_upd (f : Lgr → Lgr) (L : List Lgr) {k j : Nat} (hj : j ≠ k) : (updL L k f)[j]? = L[j]? := by
  unfold updL; split
  · rw [List.getElem?_set_ne (fun e => hj e.symm)]
  · rfl
theorem offAt_eq (L : List Lgr) (j : Nat) : offAt L j = ((L[j]?).map (·.off)).getD false := by unfold offAt; rw [List.getD_eq_getElem?_getD, List.getElem?_map]
theorem lvAt_eq (L : List Lgr) (j : Nat) : lvAt L j = ((L[j]?).map (·.lv)).getD 0 := by unfold lvAt; rw [List.getD_eq_getElem?_getD, List.getElem?_map]
theorem all_upd (p : Lgr → Bool) {f : Lgr → Lgr} (hf : ∀ l, p (f l) = p l) (L : List Lgr) (k : Nat) : (updL L k f).all p = L.all p := by
  have h := congrArg (fun l => l.all id) (map_upd p hf L k)
  simpa [List.all_map] using h
theorem treeOk_off (L : List Lgr) (H : List Hnd) (q : Int) (k : Nat) (b : Bool) : treeOk (updL L k (setOffF b)) H q = treeOk L H q := by
  unfold treeOk lgrsOk
  rw [all_upd (lgrOk H) (f := setOffF b) (fun _ => rfl) L k, map_upd (·.nm) (f := setOffF b) (fun _ => rfl) L k, len_upd]

/-- what a logger's change leads to: nothing, or the tree with it -/
theorem off_cases (L : List Lgr) (H : List Hnd) (q : Int) (s : Name) (b : Bool) : lgrX L H q s (setOffF b) = none ∨
    ∃ (k : Nat) (l : Lgr), L[k]? = some l ∧ l.nm = s ∧ treeOk L H q = true ∧ lgrX L H q s (setOffF b) = some (updL L k (setOffF b), H, q) ∧ lgrX (updL L k (setOffF b)) H q s (setOffF false) = some (updL L k (setOffF false), H, q) := by
  unfold lgrX changedO
  by_cases hneg : idxL (namesOf L) s < 0
  · exact .inl (by rw [if_pos hneg])
  · obtain ⟨k, hk⟩ : ∃ k : Nat, idxL (namesOf L) s = (k : Int) := ⟨_, (Int.toNat_of_nonneg (by omega)).symm⟩
    obtain ⟨hkl, hks⟩ := idx_nat hk
    cases h1 : treeOk L H q with
    | false => exact .inl (by rw [if_neg hneg]; simp)
    | true =>
      refine .inr ?_
      obtain ⟨l, hl⟩ : ∃ l, L[k]? = some l := ⟨_, List.getElem?_eq_getElem (by unfold namesOf at hkl; simpa using hkl)⟩
      have hn : l.nm = s := by unfold namesOf at hks; rw [List.getElem?_map, hl] at hks; exact Option.some.inj hks
      refine ⟨k, l, hl, hn, rfl, ?_, ?_⟩
      · rw [if_neg hneg, hk]
        simp only [Int.toNat_natCast, if_true, Option.bind_some]
        unfold ifOk
        rw [treeOk_off, h1]; rfl
      · rw [names_upd (f := setOffF b) (fun _ => rfl) L k, if_neg hneg, hk, treeOk_off, h1]
        simp only [Int.toNat_natCast, if_true, Option.bind_some]
        have e : updL (updL L k (setOffF b)) k (setOffF false) = updL L k (setOffF false) := by rw [upd_upd hl, upd_at hl]; rfl
        rw [e]
        unfold ifOk
        rw [treeOk_off, h1]; rfl
theorem off_same {L : List Lgr} {H : List Hnd} {q : Int} {k : Nat} {l : Lgr} (b : Bool) (h : treeOk L H q = true) (hl : L[k]? = some l) {x : Name} (hx : x ∈ nsOf L) (hne : ¬ x = l.nm) (lv : Int) :
    isEnabledT (updL L k (setOffF b)) H q x lv = isEnabledT L H q x lv := by
  obtain ⟨h0, hnd, _⟩ := tree_ns h
  obtain ⟨j, hj, ej⟩ := List.getElem_of_mem hx
  have hq : (nsOf L)[j]? = some x := by rw [List.getElem?_eq_getElem hj, ej]
  have hnear := near_hit h0 hnd x j hq
  have hjk : j ≠ k := by
    rintro rfl
    unfold nsOf at hq
    rw [List.getElem?_map, hl] at hq
    exact hne (Option.some.inj hq).symm
  have e1 : offT (updL L k (setOffF b)) x = offT L x := by
    unfold offT
    rw [ns_upd (f := setOffF b) (fun _ => rfl) L k, hnear, offAt_eq, offAt_eq, get_upd _ _ hjk]
  have e2 : levelN (nsOf (updL L k (setOffF b))) (lvAt (updL L k (setOffF b))) x = levelN (nsOf L) (lvAt L) x := by
    rw [ns_upd (f := setOffF b) (fun _ => rfl) L k, show lvAt (updL L k (setOffF b)) = lvAt L from funext fun j => lv_upd (f := setOffF b) (fun _ => rfl) L k j]
  unfold isEnabledT enabledT
  rw [treeOk_off, e1, e2]
theorem off_none {L : List Lgr} {H : List Hnd} {q : Int} {k : Nat} {l : Lgr} (h : treeOk L H q = true) (hl : L[k]? = some l) (lv : Int) :
    isEnabledT (updL L k (setOffF true)) H q l.nm lv = false := by
  obtain ⟨h0, hnd, _⟩ := tree_ns h
  have hq : (nsOf L)[k]? = some l.nm := by unfold nsOf; rw [List.getElem?_map, hl]; rfl
  have e1 : offT (updL L k (setOffF true)) l.nm = true := by
    unfold offT
    rw [ns_upd (f := setOffF true) (fun _ => rfl) L k, near_hit h0 hnd l.nm k hq, decide_eq_true (List.mem_of_getElem? hq), offAt_eq, upd_at hl, set_at hl]
    rfl
  unfold isEnabledT enabledT
  rw [e1]
  simp
end Go.Proofs.Ytjejildgbmkbbaa
