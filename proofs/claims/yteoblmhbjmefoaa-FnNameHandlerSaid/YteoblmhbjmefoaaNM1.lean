/-
  A HANDLER RENAMED, plain: renamed back, and its users. By gen_nameh.py.
-/
import Derived.Test.YteoblmhbjmefoaaNH1
import Derived.Test.YteoblmhbjmefoaaE11
namespace Go.Proofs.Yteoblmhbjmefoaa
open Go.RowKit Nm
set_option linter.unusedSimpArgs false
set_option linter.unusedVariables false

theorem name_cases (L : List Lgr) (H : List Hnd) (q : Int) (s t : Name) : nameX L H q s t = none ∨ ∃ k : Nat, treeOk L H q = true ∧ idxL (hnm H) s = (k : Int) ∧ treeOk (renT L s t) (setNm H k t) q = true ∧ nameX L H q s t = some (renT L s t, setNm H k t, q) := by
  by_cases hz : treeOk L H q = true
  · by_cases hn : idxL (hnm H) s < 0
    · left; unfold nameX changedO; rw [if_pos hn]; split <;> rfl
    · obtain ⟨k, hk⟩ : ∃ k : Nat, idxL (hnm H) s = (k : Int) := ⟨_, (Int.toNat_of_nonneg (by omega)).symm⟩
      have e : nameX L H q s t = ifOk (renT L s t) (setNm H k t) q := by
        unfold nameX changedO
        rw [if_neg hn, if_pos hz, hk]
        rfl
      by_cases hy : treeOk (renT L s t) (setNm H k t) q = true
      · right; exact ⟨k, hz, hk, hy, by rw [e]; unfold ifOk; rw [if_pos hy]⟩
      · left; rw [e]; unfold ifOk; rw [if_neg hy]
  · left; unfold nameX changedO; rw [if_neg hz]
theorem hn_nodup {L : List Lgr} {H : List Hnd} {q : Int} (h : treeOk L H q = true) : (hnm H).Nodup := by
  unfold treeOk hndsOk at h
  simp only [Bool.and_eq_true, decide_eq_true_eq, List.all_eq_true] at h
  exact h.2.1.2.1
theorem hs_in {L : List Lgr} {H : List Hnd} {q : Int} (h : treeOk L H q = true) {l : Lgr} (hl : l ∈ L) {x : Name} (hx : x ∈ l.hs) : x ∈ hnm H := by
  unfold treeOk lgrsOk at h
  simp only [Bool.and_eq_true, decide_eq_true_eq, List.all_eq_true] at h
  have h1 := h.2.2.1 l hl
  unfold lgrOk at h1
  simp only [Bool.and_eq_true, decide_eq_true_eq, List.all_eq_true] at h1
  have h3 := h1.2.2.2.1 x hx
  unfold hasL at h3
  obtain ⟨y, hy, e⟩ := List.any_eq_true.1 h3
  exact List.mem_map.2 ⟨y, hy, of_decide_eq_true e⟩
theorem set_sameN {α : Type} {l : List α} {k : Nat} {x : α} (h : l[k]? = some x) : l.set k x = l := by
  refine List.ext_getElem? fun i => ?_
  by_cases hi : i = k
  · subst hi; rw [List.getElem?_set_self (List.getElem?_eq_some_iff.1 h).1, h]
  · rw [List.getElem?_set_ne (fun e => hi e.symm)]
theorem hnm_set {H : List Hnd} {k : Nat} (hk : k < H.length) (t : Name) : hnm (setNm H k t) = (hnm H).set k t := by
  unfold setNm hnm
  rw [List.getElem?_eq_getElem hk]
  show (H.set k _).map _ = _
  rw [List.map_set]
theorem idx_nodup {ns : List Name} (hn : ns.Nodup) {k : Nat} {x : Name} (h : ns[k]? = some x) : idxL ns x = (k : Int) := by
  refine idx_hit ns x k h fun hm => ?_
  obtain ⟨j, hj⟩ := List.getElem?_of_mem hm
  have hjl := (List.getElem?_eq_some_iff.1 hj).1
  rw [List.length_take] at hjl
  rw [List.getElem?_take_of_lt (by omega)] at hj
  have hk := (List.getElem?_eq_some_iff.1 h).1
  have := nodup_at hn (i := j) (j := k) (by omega) hk (by simp [List.getD, hj, h])
  omega
theorem name_other {L : List Lgr} {H : List Hnd} {q : Int} {s t : Name} {k : Nat} (hk : idxL (hnm H) s = (k : Int)) (h' : treeOk (renT L s t) (setNm H k t) q = true) (hne : t ≠ s) : t ∉ hnm H := by
  obtain ⟨hkl, hks⟩ := idx_nat hk
  have hkH : k < H.length := by unfold hnm at hkl; rwa [List.length_map] at hkl
  have hnd := hn_nodup h'
  rw [hnm_set hkH] at hnd
  intro hm
  obtain ⟨j, hj⟩ := List.getElem?_of_mem hm
  have hjl := (List.getElem?_eq_some_iff.1 hj).1
  have hjk : j ≠ k := fun e => by subst e; rw [hj] at hks; exact hne (Option.some.inj hks)
  have e1 : ((hnm H).set k t)[j]? = some t := by rw [List.getElem?_set_ne (fun e => hjk e.symm)]; exact hj
  have e2 : ((hnm H).set k t)[k]? = some t := List.getElem?_set_self hkl
  exact hjk (nodup_at hnd (i := j) (j := k) (by rw [List.length_set]; exact hjl) (by rw [List.length_set]; exact hkl) (by simp only [List.getD, e1, e2]))
theorem ren_back {L : List Lgr} {H : List Hnd} {q : Int} {s t : Name} {k : Nat} (h : treeOk L H q = true) (hk : idxL (hnm H) s = (k : Int)) (h' : treeOk (renT L s t) (setNm H k t) q = true) : renT (renT L s t) t s = L := by
  unfold renT
  rw [List.map_map]
  refine (List.map_congr_left fun l hl => ?_).trans (List.map_id L)
  show renL t s (renL s t l) = l
  unfold renL
  have e : (l.hs.map (renS s t)).map (renS t s) = l.hs := by
    rw [List.map_map]
    refine (List.map_congr_left fun x hx => ?_).trans (List.map_id l.hs)
    show renS t s (renS s t x) = x
    by_cases hxs : x = s
    · unfold renS; rw [if_pos hxs, if_pos rfl, hxs]
    · have hxt : x ≠ t := fun e2 => by
        by_cases e3 : t = s
        · exact hxs (e2.trans e3)
        · exact name_other hk h' e3 (e2 ▸ hs_in h hl hx)
      unfold renS; rw [if_neg hxs, if_neg hxt]
  simp only [e]
theorem name_back {L : List Lgr} {H : List Hnd} {q : Int} {s t : Name} {k : Nat} (h : treeOk L H q = true) (hk : idxL (hnm H) s = (k : Int)) (h' : treeOk (renT L s t) (setNm H k t) q = true) : nameX (renT L s t) (setNm H k t) q t s = some (L, H, q) := by
  obtain ⟨hkl, hks⟩ := idx_nat hk
  have hkH : k < H.length := by unfold hnm at hkl; rwa [List.length_map] at hkl
  have e1 : (hnm (setNm H k t))[k]? = some t := by rw [hnm_set hkH]; exact List.getElem?_set_self hkl
  have e2 := idx_nodup (hn_nodup h') e1
  have e3 : setNm (setNm H k t) k s = H := by
    obtain ⟨x, hx⟩ : ∃ x, H[k]? = some x := ⟨_, List.getElem?_eq_getElem hkH⟩
    have hxn : x.nm = s := by unfold hnm at hks; rw [List.getElem?_map, hx] at hks; exact Option.some.inj hks
    have e4 : setNm H k t = H.set k { x with nm := t } := by unfold setNm; rw [hx]
    rw [e4]
    unfold setNm
    rw [List.getElem?_set_self hkH]
    show (H.set k _).set k _ = H
    rw [List.set_set]
    refine set_sameN ?_
    rw [hx, ← hxn]
  unfold nameX changedO
  rw [if_pos h', e2, if_neg (show ¬ ((k : Int) < 0) by omega)]
  show ifOk (renT (renT L s t) t s) (setNm (setNm H k t) (k : Int).toNat s) q = _
  rw [Int.toNat_natCast, e3, ren_back h hk h']
  unfold ifOk
  rw [if_pos h]
theorem name_users {L : List Lgr} {H : List Hnd} {q : Int} {s t : Name} {k : Nat} (h : treeOk L H q = true) (hk : idxL (hnm H) s = (k : Int)) (h' : treeOk (renT L s t) (setNm H k t) q = true) : usersT (renT L s t) (setNm H k t) q t = usersT L H q s := by
  unfold usersT
  rw [h, h', if_pos rfl, if_pos rfl, usersN_eq, usersN_eq]
  unfold renT
  rw [List.filter_map, List.map_map]
  have e : L.filter ((fun l => decide (t ∈ l.hs)) ∘ renL s t) = L.filter (fun l => decide (s ∈ l.hs)) := by
    refine List.filter_congr fun l hl => ?_
    show decide (t ∈ l.hs.map (renS s t)) = decide (s ∈ l.hs)
    refine decide_eq_decide.2 ⟨fun hm => ?_, fun hm => List.mem_map.2 ⟨s, hm, by unfold renS; rw [if_pos rfl]⟩⟩
    obtain ⟨x, hx, e⟩ := List.mem_map.1 hm
    by_cases hxs : x = s
    · rw [← hxs]; exact hx
    · unfold renS at e
      rw [if_neg hxs] at e
      by_cases e3 : t = s
      · exact absurd (e.trans e3) hxs
      · exact absurd (e ▸ hs_in h hl hx) (name_other hk h' e3)
  rw [e]
  rfl
end Go.Proofs.Yteoblmhbjmefoaa
