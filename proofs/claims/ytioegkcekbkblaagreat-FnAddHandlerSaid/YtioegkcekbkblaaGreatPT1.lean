/-
  A TREE PATCHED WITH LEVELS OF ANOTHER ONE: plain.
-/
import Derived.Test.YtioegkcekbkblaaGreatNH1
namespace Go.Proofs.YtioegkcekbkblaaGreat
open Go.RowKit Nm
set_option linter.unusedSimpArgs false
set_option linter.unusedVariables false

theorem mapk_step {α : Type} (f : α → α) {L : List α} {k : Nat} {l : α} (h : L[k]? = some l) : (L.take (k + 1)).map f ++ L.drop (k + 1) = ((L.take k).map f ++ L.drop k).set k (f l) := by
  have hk := (List.getElem?_eq_some_iff.1 h).1
  have e1 : (L.take (k + 1)).map f = (L.take k).map f ++ [f l] := by rw [List.take_add_one, h, List.map_append]; rfl
  have e2 : L.drop k = l :: L.drop (k + 1) := by rw [List.drop_eq_getElem_cons hk]; congr 1; exact (List.getElem?_eq_some_iff.1 h).2
  have e3 : ((L.take k).map f).length = k := by rw [List.length_map, List.length_take]; omega
  rw [e1, e2, List.set_append_right _ _ (by omega), e3, Nat.sub_self, List.set_cons_zero, List.append_assoc]; rfl
theorem mapk_at {α : Type} (f : α → α) {L : List α} {k : Nat} (hk : k < L.length) : ((L.take k).map f ++ L.drop k)[k]? = L[k]? := by
  have e3 : ((L.take k).map f).length = k := by rw [List.length_map, List.length_take]; omega
  rw [List.getElem?_append_right (by omega), e3, Nat.sub_self, List.getElem?_drop]; rfl
theorem mapk_same {α : Type} (f : α → α) {L : List α} {k : Nat} {l : α} (h : L[k]? = some l) (hf : f l = l) : (L.take (k + 1)).map f ++ L.drop (k + 1) = (L.take k).map f ++ L.drop k := by
  rw [mapk_step f h, hf]
  refine List.ext_getElem? fun i => ?_
  have e := mapk_at f (List.getElem?_eq_some_iff.1 h).1
  rw [h] at e
  rw [List.getElem?_set]
  split
  · rename_i hi
    subst hi
    rw [if_pos (List.getElem?_eq_some_iff.1 e).1, e]
  · rfl

def patH (Hb : List Hnd) (h : Hnd) : Hnd := if idxL (hnm Hb) h.nm < 0 then h else { h with lv := (Hb.map (·.lv)).getD (idxL (hnm Hb) h.nm).toNat 0 }
def patL (Lb : List Lgr) (l : Lgr) : Lgr := if idxL (namesOf Lb) l.nm < 0 then l else { l with lv := (Lb.map (·.lv)).getD (idxL (namesOf Lb) l.nm).toNat 0, stop := (Lb.map (·.stop)).getD (idxL (namesOf Lb) l.nm).toNat false }
def patX (L : List Lgr) (H : List Hnd) (q : Int) (Lb : List Lgr) (Hb : List Hnd) (qb : Int) : Option TreeD :=
  if treeOk Lb Hb qb then changedO L H q (some (L.map (patL Lb), H.map (patH Hb), qb)) else none
theorem patH_nm (Hb : List Hnd) (h : Hnd) : (patH Hb h).nm = h.nm := by unfold patH; split <;> rfl
theorem patH_fs (Hb : List Hnd) (h : Hnd) : (patH Hb h).fs = h.fs := by unfold patH; split <;> rfl
theorem patL_nm (Lb : List Lgr) (l : Lgr) : (patL Lb l).nm = l.nm := by unfold patL; split <;> rfl
theorem patL_hs (Lb : List Lgr) (l : Lgr) : (patL Lb l).hs = l.hs := by unfold patL; split <;> rfl
theorem patL_fs (Lb : List Lgr) (l : Lgr) : (patL Lb l).fs = l.fs := by unfold patL; split <;> rfl
theorem pat_fit {L : List Lgr} {H : List Hnd} (Lb : List Lgr) (Hb : List Hnd) (h : dataFit L H) : dataFit (L.map (patL Lb)) (H.map (patH Hb)) := by
  refine ⟨⟨by rw [List.length_map]; exact h.1.1, fun a ha => ?_⟩, by rw [List.length_map]; exact h.2.1, fun a ha => ?_⟩
  · obtain ⟨l, hl, rfl⟩ := List.mem_map.1 ha
    have := h.1.2 l hl
    unfold lgrFit at this ⊢
    rw [patL_nm, patL_hs, patL_fs]; exact this
  · obtain ⟨l, hl, rfl⟩ := List.mem_map.1 ha
    have := h.2.2 l hl
    unfold hndFit at this ⊢
    rw [patH_nm, patH_fs]; exact this
theorem treeOk_parts {L : List Lgr} {H : List Hnd} {q : Int} (h : treeOk L H q = true) : lvOk q = true ∧ (∀ x ∈ H, lvOk x.lv = true) ∧ (∀ l ∈ L, lvOk l.lv = true) := by
  unfold treeOk lgrsOk hndsOk at h
  simp only [Bool.and_eq_true, decide_eq_true_eq, List.all_eq_true] at h
  obtain ⟨h0, ⟨h1, h2, h3⟩, h4, _⟩ := h
  refine ⟨h0, fun x hx => ?_, fun l hl => ?_⟩
  · have := h1 x hx; unfold hndOk at this; simp only [Bool.and_eq_true] at this; exact this.2.2.1
  · have := h4 l hl; unfold lgrOk at this; simp only [Bool.and_eq_true] at this; exact this.2.1
theorem lv_getD {α : Type} {X : List α} {f : α → Int} (h : ∀ x ∈ X, lvOk (f x) = true) (k : Nat) : lvOk ((X.map f).getD k 0) = true := by
  rw [List.getD_eq_getElem?_getD]
  cases e : (X.map f)[k]? with
  | none => rfl
  | some y => obtain ⟨x, hx, rfl⟩ := List.mem_map.1 (List.mem_of_getElem? e); exact h x hx
theorem pat_ok {L : List Lgr} {H : List Hnd} {q : Int} {Lb : List Lgr} {Hb : List Hnd} {qb : Int} (h : treeOk L H q = true) (hb : treeOk Lb Hb qb = true) : treeOk (L.map (patL Lb)) (H.map (patH Hb)) qb = true := by
  obtain ⟨b0, b1, b2⟩ := treeOk_parts hb
  have eH : (H.map (patH Hb)).map (·.nm) = H.map (·.nm) := by rw [List.map_map]; exact List.map_congr_left fun x _ => patH_nm Hb x
  have eL : (L.map (patL Lb)).map (·.nm) = L.map (·.nm) := by rw [List.map_map]; exact List.map_congr_left fun x _ => patL_nm Lb x
  have eS : ∀ x, hasL (H.map (patH Hb)) x = hasL H x := fun x => by
    unfold hasL; rw [List.any_map]; congr 1; funext y; simp only [Function.comp, patH_nm]
  unfold treeOk lgrsOk hndsOk at h ⊢
  rw [eH, eL]
  simp only [Bool.and_eq_true, decide_eq_true_eq, List.all_eq_true, List.length_map] at h ⊢
  obtain ⟨h0, ⟨h1, h2, h3⟩, h4, h5⟩ := h
  refine ⟨b0, ⟨fun x hx => ?_, h2, h3⟩, fun l hl => ?_, h5⟩
  · obtain ⟨y, hy, rfl⟩ := List.mem_map.1 hx
    have := h1 y hy
    unfold hndOk at this ⊢
    simp only [Bool.and_eq_true] at this ⊢
    rw [patH_nm, patH_fs]
    refine ⟨this.1, this.2.1, ?_, this.2.2.2⟩
    unfold patH
    split
    · exact this.2.2.1
    · exact lv_getD b1 _
  · obtain ⟨y, hy, rfl⟩ := List.mem_map.1 hl
    have := h4 y hy
    unfold lgrOk at this ⊢
    simp only [Bool.and_eq_true] at this ⊢
    rw [patL_nm, patL_fs, patL_hs]
    have e : hasL (H.map (patH Hb)) = hasL H := funext eS
    rw [e]
    refine ⟨this.1, ?_, this.2.2⟩
    unfold patL
    split
    · exact this.2.1
    · exact lv_getD b2 _
theorem pat_res_fit (L : List Lgr) (H : List Hnd) (q : Int) (Lb : List Lgr) (Hb : List Hnd) (qb : Int) : dataFit (resL (patX L H q Lb Hb qb)) (resH (patX L H q Lb Hb qb)) := by
  unfold patX
  split
  · exact changed_fit _ _ _ _
  · exact ⟨⟨by simp [resL], by simp [resL]⟩, ⟨by simp [resH], by simp [resH]⟩⟩
end Go.Proofs.YtioegkcekbkblaaGreat
