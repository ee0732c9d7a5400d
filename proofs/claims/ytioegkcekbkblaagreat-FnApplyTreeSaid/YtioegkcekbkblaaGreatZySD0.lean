/-
  LOGGERS WITH NOTHING DROPPED: plain: what is sent and the level stay. The loggers that a name meets on its way up.
-/
import Derived.Test.YtioegkcekbkblaaGreatZyEM
import Derived.Test.YtioegkcekbkblaaGreatZyDL1
import Derived.Test.YtioegkcekbkblaaGreatZyFRM
namespace Go.Proofs.YtioegkcekbkblaaGreat
open Go.RowKit Go.Proofs.YtioegkcekbkblaaGreat.Nm
set_option linter.unusedSimpArgs false
set_option linter.unusedVariables false

def lgrOf (L : List Lgr) (x : Name) : Option Lgr := L.find? fun l => decide (l.nm = x)
/-- the loggers of a name and of the names above it -/
def upG (L : List Lgr) : Nat → Name → List Lgr
  | 0, x => (lgrOf L x).toList
  | n + 1, x => (lgrOf L x).toList ++ (if x = [] then [] else upG L n (aboveL x))
theorem lgrOf_at {L : List Lgr} (hnd : (nsOf L).Nodup) {i : Nat} {l : Lgr} (h : L[i]? = some l) : lgrOf L l.nm = some l := by
  induction L generalizing i with
  | nil => simp at h
  | cons a L ih =>
    unfold lgrOf
    have hnd' : a.nm ∉ nsOf L ∧ (nsOf L).Nodup := by unfold nsOf at hnd ⊢; simpa using List.nodup_cons.1 hnd
    cases i with
    | zero =>
      obtain rfl : a = l := by simpa using h
      rw [List.find?_cons_of_pos (by simp)]
    | succ i =>
      have h' : L[i]? = some l := by simpa using h
      have hne : a.nm ≠ l.nm := fun e => hnd'.1 (by unfold nsOf; rw [e]; exact List.mem_map.2 ⟨l, List.mem_of_getElem? h', rfl⟩)
      rw [List.find?_cons_of_neg (by simpa using hne)]
      exact ih hnd'.2 h'
theorem lgrOf_none {L : List Lgr} {x : Name} (h : x ∉ nsOf L) : lgrOf L x = none := by
  unfold lgrOf
  refine List.find?_eq_none.2 fun l hl => ?_
  simp only [decide_eq_true_eq]
  exact fun e => h (by unfold nsOf; exact List.mem_map.2 ⟨l, hl, e⟩)
theorem nsIdx {L : List Lgr} {x : Name} (h : x ∈ nsOf L) : ∃ (i : Nat) (l : Lgr), L[i]? = some l ∧ l.nm = x ∧ (nsOf L)[i]? = some x := by
  obtain ⟨l, hl, rfl⟩ := List.mem_map.1 h
  obtain ⟨i, hi, he⟩ := List.getElem_of_mem hl
  exact ⟨i, l, by rw [List.getElem?_eq_getElem hi, he], rfl, by unfold nsOf; rw [List.getElem?_map, List.getElem?_eq_getElem hi, he]; rfl⟩
theorem lgrOf_filter {L : List Lgr} (p : Lgr → Bool) (hnd : (nsOf L).Nodup) (x : Name) : lgrOf (L.filter p) x = (lgrOf L x).filter p := by
  induction L with
  | nil => rfl
  | cons a L ih =>
    have hnd' : a.nm ∉ nsOf L ∧ (nsOf L).Nodup := by unfold nsOf at hnd ⊢; simpa using List.nodup_cons.1 hnd
    have ih' := ih hnd'.2
    unfold lgrOf at ih' ⊢
    by_cases hx : a.nm = x
    · rw [List.find?_cons_of_pos (p := fun l : Lgr => decide (l.nm = x)) (by simpa using hx)]
      by_cases hp : p a = true
      · rw [List.filter_cons_of_pos hp, List.find?_cons_of_pos (by simpa using hx)]
        simp [Option.filter, hp]
      · rw [List.filter_cons_of_neg hp, ih']
        have h9 : lgrOf L x = none := lgrOf_none (by rw [← hx]; exact hnd'.1)
        unfold lgrOf at h9
        rw [h9]
        simp [Option.filter, hp]
    · rw [List.find?_cons_of_neg (p := fun l : Lgr => decide (l.nm = x)) (by simpa using hx)]
      by_cases hp : p a = true
      · rw [List.filter_cons_of_pos hp, List.find?_cons_of_neg (by simpa using hx), ih']
      · rw [List.filter_cons_of_neg hp, ih']
theorem toList_filter {α : Type} (p : α → Bool) (o : Option α) : (o.filter p).toList = o.toList.filter p := by
  cases o with
  | none => rfl
  | some a => by_cases h : p a = true <;> simp [Option.filter, h]
theorem upG_filter {L : List Lgr} (p : Lgr → Bool) (hnd : (nsOf L).Nodup) : ∀ (n : Nat) (x : Name), upG (L.filter p) n x = (upG L n x).filter p
  | 0, x => by unfold upG; rw [lgrOf_filter p hnd, toList_filter]
  | n + 1, x => by
    unfold upG
    rw [lgrOf_filter p hnd, toList_filter, List.filter_append, upG_filter p hnd n]
    split <;> rfl
theorem lgr_at {L : List Lgr} {k : Nat} (hk : k < L.length) : ∃ l, L[k]? = some l ∧ (nsOf L).getD k [] = l.nm := by
  refine ⟨L[k], List.getElem?_eq_getElem hk, ?_⟩
  simp [nsOf, List.getD, hk]
/-- the path goes by them -/
theorem path_up {L : List Lgr} (h0 : (nsOf L)[0]? = some []) (hnd : (nsOf L).Nodup) (hok : ∀ z ∈ nsOf L, nameOk z = true) :
    ∀ (n : Nat) (x : Name), nameOk x = true → (partsL x).length ≤ n → ∀ f, depthN (nsOf L) (nearN (nsOf L) x) ≤ f → (pathF (nsOf L) f (nearN (nsOf L) x)).map (fun i => L[i]?) = (upG L n x).map some := by
  have hroot : nearN (nsOf L) [] = 0 := near_hit h0 hnd [] 0 h0
  have hr : ∀ f, (pathF (nsOf L) f (nearN (nsOf L) [])).map (fun i => L[i]?) = ((lgrOf L []).toList).map some := fun f => by
    obtain ⟨i, l, hl, hn, hi⟩ := nsIdx (List.mem_of_getElem? h0)
    have hl0 : (nsOf L).getD 0 [] = [] := by simp [List.getD, h0]
    obtain rfl : i = 0 := by rw [← hroot]; exact (near_hit h0 hnd [] i hi).symm
    rw [hroot, pathF_root hl0]
    have h9 := lgrOf_at hnd hl
    rw [hn] at h9
    rw [h9]
    simp [hl]
  intro n
  induction n with
  | zero =>
    intro x hx hp f hf
    obtain rfl : x = [] := (partsL_nil_iff x).1 (List.length_eq_zero_iff.1 (by omega))
    exact hr f
  | succ n ih =>
    intro x hx hp f hf
    unfold upG
    by_cases hxe : x = []
    · subst hxe
      rw [if_pos rfl, List.append_nil]
      exact hr f
    · rw [if_neg hxe]
      have hp' : (partsL (aboveL x)).length ≤ n := by have := above_shorter hx hxe; omega
      by_cases hm : x ∈ nsOf L
      · obtain ⟨i, l, hl, hn, hi⟩ := nsIdx hm
        have hni : nearN (nsOf L) x = i := near_hit h0 hnd x i hi
        have hg : (nsOf L).getD i [] = x := by simp [List.getD, hi]
        rw [hni] at hf ⊢
        obtain ⟨g, rfl, hpf⟩ := pathF_up (ns := nsOf L) (k := i) (by rw [hg]; exact hxe) hf
        have hup : upN (nsOf L) i = nearN (nsOf L) (aboveL x) := by unfold upN; rw [hg]
        have hil : i < (nsOf L).length := (List.getElem?_eq_some_iff.1 hi).1
        have hd := depth_up h0 hok hil (by rw [hg]; exact hxe)
        rw [hup] at hd hpf
        rw [hpf, List.map_cons, ih _ (above_name hx).1 hp' g (by omega)]
        have h9 := lgrOf_at hnd hl
        rw [hn] at h9
        rw [h9]
        simp [hl]
      · rw [lgrOf_none hm, ← near_miss hx hm]
        rw [ih _ (above_name hx).1 hp' f (by rw [near_miss hx hm]; exact hf)]
        rfl
/-- the spots of loggers, up to one with Stop -/
def spotsG : List Lgr → List Spt
  | [] => []
  | l :: r => l.hs.map (fun h => (⟨l.nm, h⟩ : Spt)) ++ (if l.stop then [] else spotsG r)
theorem spots_by {L : List Lgr} : ∀ (ix : List Nat) (gs : List Lgr), ix.map (fun i => L[i]?) = gs.map some → spotsI L ix = spotsG gs
  | [], [], _ => rfl
  | [], _ :: _, h => by simp at h
  | _ :: _, [], h => by simp at h
  | i :: ix, g :: gs, h => by
    simp only [List.map_cons, List.cons.injEq] at h
    have hi := h.1
    unfold spotsI spotsG ownS hsAt stopAt nsOf
    rw [spots_by ix gs h.2]
    simp [List.getD, hi]
theorem lv_by {L : List Lgr} : ∀ (ix : List Nat) (gs : List Lgr), ix.map (fun i => L[i]?) = gs.map some → ix.map (lvAt L) = gs.map (·.lv)
  | [], [], _ => rfl
  | [], _ :: _, h => by simp at h
  | _ :: _, [], h => by simp at h
  | i :: ix, g :: gs, h => by
    simp only [List.map_cons, List.cons.injEq] at h
    have hi := h.1
    rw [List.map_cons, List.map_cons, lv_by ix gs h.2]
    simp [lvAt, List.getD, hi]
theorem parts_le {x : Name} (h : nameOk x = true) : (partsL x).length ≤ 4 := ((nameOk_iff x).1 h).2
theorem spots_up {L : List Lgr} {H : List Hnd} {q : Int} {x : Name} (h : treeOk L H q = true) (hx : nameOk x = true) : spotsI L (pathN (nsOf L) x) = spotsG (upG L 4 x) := by
  obtain ⟨h0, hnd, hok, _⟩ := tree_ns h
  exact spots_by _ _ (path_up h0 hnd hok 4 x hx (parts_le hx) 4 (depth_le hok _))
theorem levelG_up {L : List Lgr} {H : List Hnd} {q : Int} {x : Name} (h : treeOk L H q = true) (hx : nameOk x = true) : levelN (nsOf L) (lvAt L) x = firstLv ((upG L 4 x).map (·.lv)) := by
  obtain ⟨h0, hnd, hok, _⟩ := tree_ns h
  have hlv := (tree_names h).2.2.2.2.2
  unfold levelN
  rw [← level_first (ns := nsOf L) (lvAt L) (fun k => ?_) 4 (nearN (nsOf L) x), lv_by _ _ (path_up h0 hnd hok 4 x hx (parts_le hx) 4 (depth_le hok _))]
  unfold lvAt
  rw [List.getD_eq_getElem?_getD, List.getElem?_map]
  cases e : L[k]? with
  | none => exact Int.le_refl _
  | some l => exact (hlv l (List.mem_of_getElem? e)).1
theorem off_up {L : List Lgr} {x : Name} (h0 : (nsOf L)[0]? = some []) (hnd : (nsOf L).Nodup) : offT L x = ((lgrOf L x).map (·.off)).getD false := by
  unfold offT
  by_cases hm : x ∈ nsOf L
  · obtain ⟨i, l, hl, hn, hi⟩ := nsIdx hm
    have h9 := lgrOf_at hnd hl
    rw [hn] at h9
    rw [near_hit h0 hnd x i hi, h9, decide_eq_true hm]
    simp [offAt, List.getD, hl]
  · rw [lgrOf_none hm, decide_eq_false hm]; rfl
theorem own_up {L : List Lgr} {x : Name} (h0 : (nsOf L)[0]? = some []) (hnd : (nsOf L).Nodup) : ownF L x = ((lgrOf L x).map (·.fs)).getD [] := by
  unfold ownF
  by_cases hm : x ∈ nsOf L
  · obtain ⟨i, l, hl, hn, hi⟩ := nsIdx hm
    have h9 := lgrOf_at hnd hl
    rw [hn] at h9
    rw [near_hit h0 hnd x i hi, h9, if_pos hm]
    simp [fsAt, List.getD, hl]
  · rw [lgrOf_none hm, if_neg hm]; rfl
section
variable {L : List Lgr} {H : List Hnd} {q : Int}
end
end Go.Proofs.YtioegkcekbkblaaGreat
