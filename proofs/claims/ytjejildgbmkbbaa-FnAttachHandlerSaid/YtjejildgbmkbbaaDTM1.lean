/-
  NH1, PT1, DL1, DL2, DL4, DL5, DL3, DL6, NH2, DL7, DL8 laid together.
-/
import Derived.Test.YtjejildgbmkbbaaC9
import Derived.Test.YtjejildgbmkbbaaU2
import Derived.Test.YtjejildgbmkbbaaApp
import Derived.Test.YtjejildgbmkbbaaU1
import Derived.Test.YtjejildgbmkbbaaC2
import Derived.Test.YtjejildgbmkbbaaC10
import Derived.Test.YtjejildgbmkbbaaHeld
/-
  A HANDLER NAMED ANEW: plain; the program's handlerAt.
-/
namespace Go.Proofs.Ytjejildgbmkbbaa
open Go.RowKit Nm
set_option linter.unusedSimpArgs false
set_option linter.unusedVariables false

def renS (s t x : Name) : Name := if x = s then t else x
def renL (s t : Name) (l : Lgr) : Lgr := { l with hs := l.hs.map (renS s t) }
def renT (L : List Lgr) (s t : Name) : List Lgr := L.map (renL s t)
def setNm (H : List Hnd) (k : Nat) (t : Name) : List Hnd := match H[k]? with | some h => H.set k { h with nm := t } | none => H
def hnm (H : List Hnd) : List Name := H.map (·.nm)
def nameX (L : List Lgr) (H : List Hnd) (q : Int) (s t : Name) : Option TreeD :=
  changedO L H q (if idxL (hnm H) s < 0 then none else some (renT L s t, setNm H (idxL (hnm H) s).toNat t, q))
theorem ren_none {s t : Name} {l : List Name} (h : s ∉ l) : l.map (renS s t) = l := by
  refine (List.map_congr_left fun x hx => ?_).trans (List.map_id l)
  show renS s t x = x
  unfold renS
  rw [if_neg (fun e => h (by rw [← e]; exact hx))]
theorem ren_set {s t : Name} {l : List Name} (hn : l.Nodup) {k : Nat} (hk : l[k]? = some s) : l.set k t = l.map (renS s t) := by
  have hkl := (List.getElem?_eq_some_iff.1 hk).1
  have hke := (List.getElem?_eq_some_iff.1 hk).2
  refine List.ext_getElem (by simp) fun i h1 h2 => ?_
  have hi : i < l.length := by simpa using h1
  rw [List.getElem_map]
  by_cases e : i = k
  · subst e
    rw [List.getElem_set_self, hke]; unfold renS; rw [if_pos rfl]
  · rw [List.getElem_set_ne (by omega)]
    unfold renS
    rw [if_neg]
    intro e2
    exact e (nodup_at hn hi hkl (by simp [List.getD, hi, hkl, e2, hke]))
theorem ren_step {L : List Lgr} {k : Nat} {l : Lgr} (s t : Name) (h : L[k]? = some l) : renT (L.take (k + 1)) s t ++ L.drop (k + 1) = (renT (L.take k) s t ++ L.drop k).set k (renL s t l) := by
  have hk := (List.getElem?_eq_some_iff.1 h).1
  have e1 : renT (L.take (k + 1)) s t = renT (L.take k) s t ++ [renL s t l] := by unfold renT; rw [List.take_add_one, h, List.map_append]; rfl
  have e2 : L.drop k = l :: L.drop (k + 1) := by rw [List.drop_eq_getElem_cons hk]; congr 1; exact (List.getElem?_eq_some_iff.1 h).2
  have e3 : (renT (L.take k) s t).length = k := by unfold renT; rw [List.length_map, List.length_take]; omega
  rw [e1, e2, List.set_append_right _ _ (by omega), e3, Nat.sub_self, List.set_cons_zero, List.append_assoc]; rfl
theorem ren_at {L : List Lgr} {k : Nat} (s t : Name) (hk : k < L.length) : (renT (L.take k) s t ++ L.drop k)[k]? = L[k]? := by
  have e3 : (renT (L.take k) s t).length = k := by unfold renT; rw [List.length_map, List.length_take]; omega
  rw [List.getElem?_append_right (by omega), e3, Nat.sub_self, List.getElem?_drop]; rfl
theorem rename_fit {L : List Lgr} {H : List Hnd} {s t : Name} (k : Nat) (hd : dataFit L H) (ht : t.length ≤ maxTxt) : dataFit (renT L s t) (setNm H k t) := by
  refine ⟨⟨by unfold renT; rw [List.length_map]; exact hd.1.1, fun a ha => ?_⟩, ?_, ?_⟩
  · obtain ⟨l, hl, rfl⟩ := List.mem_map.1 ha
    have h1 := hd.1.2 l hl
    refine ⟨h1.1, ⟨by show (l.hs.map _).length ≤ _; rw [List.length_map]; exact h1.2.1.1, fun x hx => ?_⟩, h1.2.2⟩
    obtain ⟨y, hy, rfl⟩ := List.mem_map.1 hx
    unfold renS
    split
    · exact ht
    · exact h1.2.1.2 y hy
  · unfold setNm; split
    · rw [List.length_set]; exact hd.2.1
    · exact hd.2.1
  · intro h hh
    unfold setNm at hh
    split at hh
    · rename_i x hx
      rcases List.mem_or_eq_of_mem_set hh with hh | rfl
      · exact hd.2.2 h hh
      · exact ⟨ht, (hd.2.2 x (List.mem_of_getElem? hx)).2⟩
    · exact hd.2.2 h hh
theorem nodup_lenN {α : Type} [DecidableEq α] : ∀ (a b : List α), a.Nodup → (∀ x ∈ a, x ∈ b) → a.length ≤ b.length := by
  intro a
  induction a with
  | nil => intro b _ _; simp
  | cons x a ih =>
    intro b hn hs
    rw [List.nodup_cons] at hn
    have hx : x ∈ b := hs x (List.mem_cons_self ..)
    have h1 := ih (b.erase x) hn.2 (fun y hy => (List.mem_erase_of_ne (fun e => hn.1 (by rw [← e]; exact hy))).2 (hs y (List.mem_cons_of_mem _ hy)))
    rw [List.length_erase_of_mem hx] at h1
    have : 0 < b.length := List.length_pos_of_mem hx
    rw [List.length_cons]; omega
theorem tree_nodup {L : List Lgr} {H : List Hnd} {q : Int} (h : treeOk L H q = true) {l : Lgr} (hl : l ∈ L) : l.hs.Nodup ∧ l.hs.length ≤ 6 := by
  have h' := h
  unfold treeOk lgrsOk at h
  simp only [Bool.and_eq_true, decide_eq_true_eq, List.all_eq_true] at h
  have h1 := h.2.2.1 l hl
  unfold lgrOk at h1
  simp only [Bool.and_eq_true, decide_eq_true_eq, List.all_eq_true] at h1
  refine ⟨h1.2.2.2.2, ?_⟩
  have hH := tree_hlen h'
  have hsub : ∀ x ∈ l.hs, x ∈ H.map (·.nm) := fun x hx => by
    have h3 := h1.2.2.2.1 x hx
    unfold hasL at h3
    obtain ⟨y, hy, e⟩ := List.any_eq_true.1 h3
    exact List.mem_map.2 ⟨y, hy, of_decide_eq_true e⟩
  have h4 := nodup_lenN _ _ h1.2.2.2.2 hsub
  rw [List.length_map] at h4
  omega
theorem hnames_hnm (hs : List HndV) : hnames hs = hnm (hsOf hs) := by unfold hnames hnm hsOf; rw [List.map_map]; rfl

theorem hmem_of_at {l : List HndV} {k : Nat} {x : HndV} (hx : l[k]? = some x) : (hnames l)[k]? = some x.h.nm := by simp [hnames, hx]

end Go.Proofs.Ytjejildgbmkbbaa

/-
  A TREE PATCHED WITH LEVELS OF ANOTHER ONE: plain.
-/
namespace Go.Proofs.Ytjejildgbmkbbaa
open Go.RowKit Nm
set_option linter.unusedSimpArgs false
set_option linter.unusedVariables false

theorem mapk_step {α : Type} (f : α → α) {L : List α} {k : Nat} {l : α} (h : L[k]? = some l) : (L.take (k + 1)).map f ++ L.drop (k + 1) = ((L.take k).map f ++ L.drop k).set k (f l) := by
  have hk := (List.getElem?_eq_some_iff.1 h).1
  have e1 : (L.take (k + 1)).map f = (L.take k).map f ++ [f l] := by rw [List.take_add_one, h, List.map_append]; rfl
  have e2 : L.drop k = l :: L.drop (k + 1) := by rw [List.drop_eq_getElem_cons hk]; congr 1; exact (List.getElem?_eq_some_iff.1 h).2
  have e3 : ((L.take k).map f).length = k := by rw [List.length_map, List.length_take]; omega
  rw [e1, e2, List.set_append_right _ _ (by omega), e3, Nat.sub_self, List.set_cons_zero, List.append_assoc]; rfl
theorem mapk_at {α : Type} (f : α → α) {L : List α} {k : Nat} (hk : k < L.length) : ((L.take k).map f ++ L.drop k)[k]? = L[k]? := by
  have e3 : ((L.take k).map f).length = k := by rw [List.length_map, List.length_take]; omega
  rw [List.getElem?_append_right (by omega), e3, Nat.sub_self, List.getElem?_drop]; rfl
theorem mapk_same {α : Type} (f : α → α) {L : List α} {k : Nat} {l : α} (h : L[k]? = some l) (hf : f l = l) : (L.take (k + 1)).map f ++ L.drop (k + 1) = (L.take k).map f ++ L.drop k := by
  rw [mapk_step f h, hf]
  refine List.ext_getElem? fun i => ?_
  have e := mapk_at f (List.getElem?_eq_some_iff.1 h).1
  rw [h] at e
  rw [List.getElem?_set]
  split
  · rename_i hi
    subst hi
    rw [if_pos (List.getElem?_eq_some_iff.1 e).1, e]
  · rfl

def patH (Hb : List Hnd) (h : Hnd) : Hnd := if idxL (hnm Hb) h.nm < 0 then h else { h with lv := (Hb.map (·.lv)).getD (idxL (hnm Hb) h.nm).toNat 0 }
def patL (Lb : List Lgr) (l : Lgr) : Lgr := if idxL (namesOf Lb) l.nm < 0 then l else { l with lv := (Lb.map (·.lv)).getD (idxL (namesOf Lb) l.nm).toNat 0, stop := (Lb.map (·.stop)).getD (idxL (namesOf Lb) l.nm).toNat false }
def patX (L : List Lgr) (H : List Hnd) (q : Int) (Lb : List Lgr) (Hb : List Hnd) (qb : Int) : Option TreeD :=
  if treeOk Lb Hb qb then changedO L H q (some (L.map (patL Lb), H.map (patH Hb), qb)) else none
theorem patH_nm (Hb : List Hnd) (h : Hnd) : (patH Hb h).nm = h.nm := by unfold patH; split <;> rfl
theorem patH_fs (Hb : List Hnd) (h : Hnd) : (patH Hb h).fs = h.fs := by unfold patH; split <;> rfl
theorem patL_nm (Lb : List Lgr) (l : Lgr) : (patL Lb l).nm = l.nm := by unfold patL; split <;> rfl
theorem patL_hs (Lb : List Lgr) (l : Lgr) : (patL Lb l).hs = l.hs := by unfold patL; split <;> rfl
theorem patL_fs (Lb : List Lgr) (l : Lgr) : (patL Lb l).fs = l.fs := by unfold patL; split <;> rfl
theorem pat_fit {L : List Lgr} {H : List Hnd} (Lb : List Lgr) (Hb : List Hnd) (h : dataFit L H) : dataFit (L.map (patL Lb)) (H.map (patH Hb)) := by
  refine ⟨⟨by rw [List.length_map]; exact h.1.1, fun a ha => ?_⟩, by rw [List.length_map]; exact h.2.1, fun a ha => ?_⟩
  · obtain ⟨l, hl, rfl⟩ := List.mem_map.1 ha
    have := h.1.2 l hl
    unfold lgrFit at this ⊢
    rw [patL_nm, patL_hs, patL_fs]; exact this
  · obtain ⟨l, hl, rfl⟩ := List.mem_map.1 ha
    have := h.2.2 l hl
    unfold hndFit at this ⊢
    rw [patH_nm, patH_fs]; exact this
theorem treeOk_parts {L : List Lgr} {H : List Hnd} {q : Int} (h : treeOk L H q = true) : lvOk q = true ∧ (∀ x ∈ H, lvOk x.lv = true) ∧ (∀ l ∈ L, lvOk l.lv = true) := by
  unfold treeOk lgrsOk hndsOk at h
  simp only [Bool.and_eq_true, decide_eq_true_eq, List.all_eq_true] at h
  obtain ⟨h0, ⟨h1, h2, h3⟩, h4, _⟩ := h
  refine ⟨h0, fun x hx => ?_, fun l hl => ?_⟩
  · have := h1 x hx; unfold hndOk at this; simp only [Bool.and_eq_true] at this; exact this.2.2.1
  · have := h4 l hl; unfold lgrOk at this; simp only [Bool.and_eq_true] at this; exact this.2.1
theorem lv_getD {α : Type} {X : List α} {f : α → Int} (h : ∀ x ∈ X, lvOk (f x) = true) (k : Nat) : lvOk ((X.map f).getD k 0) = true := by
  rw [List.getD_eq_getElem?_getD]
  cases e : (X.map f)[k]? with
  | none => rfl
  | some y => obtain ⟨x, hx, rfl⟩ := List.mem_map.1 (List.mem_of_getElem? e); exact h x hx
theorem pat_ok {L : List Lgr} {H : List Hnd} {q : Int} {Lb : List Lgr} {Hb : List Hnd} {qb : Int} (h : treeOk L H q = true) (hb : treeOk Lb Hb qb = true) : treeOk (L.map (patL Lb)) (H.map (patH Hb)) qb = true := by
  obtain ⟨b0, b1, b2⟩ := treeOk_parts hb
  have eH : (H.map (patH Hb)).map (·.nm) = H.map (·.nm) := by rw [List.map_map]; exact List.map_congr_left fun x _ => patH_nm Hb x
  have eL : (L.map (patL Lb)).map (·.nm) = L.map (·.nm) := by rw [List.map_map]; exact List.map_congr_left fun x _ => patL_nm Lb x
  have eS : ∀ x, hasL (H.map (patH Hb)) x = hasL H x := fun x => by
    unfold hasL; rw [List.any_map]; congr 1; funext y; simp only [Function.comp, patH_nm]
  unfold treeOk lgrsOk hndsOk at h ⊢
  rw [eH, eL]
  simp only [Bool.and_eq_true, decide_eq_true_eq, List.all_eq_true, List.length_map] at h ⊢
  obtain ⟨h0, ⟨h1, h2, h3⟩, h4, h5⟩ := h
  refine ⟨b0, ⟨fun x hx => ?_, h2, h3⟩, fun l hl => ?_, h5⟩
  · obtain ⟨y, hy, rfl⟩ := List.mem_map.1 hx
    have := h1 y hy
    unfold hndOk at this ⊢
    simp only [Bool.and_eq_true] at this ⊢
    rw [patH_nm, patH_fs]
    refine ⟨this.1, this.2.1, ?_, this.2.2.2⟩
    unfold patH
    split
    · exact this.2.2.1
    · exact lv_getD b1 _
  · obtain ⟨y, hy, rfl⟩ := List.mem_map.1 hl
    have := h4 y hy
    unfold lgrOk at this ⊢
    simp only [Bool.and_eq_true] at this ⊢
    rw [patL_nm, patL_fs, patL_hs]
    have e : hasL (H.map (patH Hb)) = hasL H := funext eS
    rw [e]
    refine ⟨this.1, ?_, this.2.2⟩
    unfold patL
    split
    · exact this.2.1
    · exact lv_getD b2 _
theorem pat_res_fit (L : List Lgr) (H : List Hnd) (q : Int) (Lb : List Lgr) (Hb : List Hnd) (qb : Int) : dataFit (resL (patX L H q Lb Hb qb)) (resH (patX L H q Lb Hb qb)) := by
  unfold patX
  split
  · exact changed_fit _ _ _ _
  · exact ⟨⟨by simp [resL], by simp [resL]⟩, ⟨by simp [resH], by simp [resH]⟩⟩
end Go.Proofs.Ytjejildgbmkbbaa

/-
  LOGGERS AND HANDLERS DROPPED, ATTACHED, DETACHED: plain.
-/
namespace Go.Proofs.Ytjejildgbmkbbaa
open Go.RowKit Nm
set_option linter.unusedSimpArgs false
set_option linter.unusedVariables false

theorem none_fit : dataFit (resL none) (resH none) := ⟨⟨by simp [resL], by simp [resL]⟩, ⟨by simp [resH], by simp [resH]⟩⟩
theorem sub_fit {L L' : List Lgr} {H H' : List Hnd} (h : dataFit L H) (hl : L'.Sublist L) (hh : H'.Sublist H) : dataFit L' H' :=
  ⟨⟨Nat.le_trans hl.length_le h.1.1, fun a ha => h.1.2 a (hl.subset ha)⟩, Nat.le_trans hh.length_le h.2.1, fun a ha => h.2.2 a (hh.subset ha)⟩
def dropX (L : List Lgr) (H : List Hnd) (q : Int) (s : Name) : Option TreeD := if idxL (namesOf L) s ≤ 0 then none else changedO L H q (some (L.eraseIdx (idxL (namesOf L) s).toNat, H, q))
theorem drop_res_fit (L : List Lgr) (H : List Hnd) (q : Int) (s : Name) : dataFit (resL (dropX L H q s)) (resH (dropX L H q s)) := by
  unfold dropX
  split
  · exact none_fit
  · exact changed_fit _ _ _ _
/-- fewer loggers, the root still the first -/
theorem sub_ok {L L' : List Lgr} {H : List Hnd} {q : Int} (h : treeOk L H q = true) (hs : L'.Sublist L) (h0 : L'[0]? = L[0]?) : treeOk L' H q = true := by
  unfold treeOk lgrsOk at h ⊢
  simp only [Bool.and_eq_true, decide_eq_true_eq, List.all_eq_true] at h ⊢
  obtain ⟨a, b, c, d, e, f, g⟩ := h
  refine ⟨a, b, fun l hl => c l (hs.subset hl), (hs.map _).nodup d, ?_, Nat.le_trans hs.length_le f, ?_⟩
  · rw [List.getElem?_map] at g
    cases hx : L[0]? with
    | none => rw [hx] at g; cases g
    | some x => rw [hx] at h0; have := (List.getElem?_eq_some_iff.1 h0).1; omega
  · rw [List.getElem?_map, h0, ← List.getElem?_map]; exact g
theorem drop_ok {L : List Lgr} {H : List Hnd} {q : Int} {k : Nat} (h : treeOk L H q = true) (hk : 0 < k) : treeOk (L.eraseIdx k) H q = true :=
  sub_ok h (List.eraseIdx_sublist _ _) (by rw [List.getElem?_eraseIdx, if_pos hk])
theorem drop_some {L : List Lgr} {H : List Hnd} {q : Int} {s : Name} {k : Nat} (h : treeOk L H q = true) (hk : idxL (namesOf L) s = (k : Int)) (h0 : 0 < k) : dropX L H q s = some (L.eraseIdx k, H, q) := by
  unfold dropX changedO
  rw [hk, if_neg (by omega), h]
  simp only [Int.toNat_natCast, if_true, Option.bind_some]
  unfold ifOk
  rw [drop_ok h h0]; rfl

/-- the same names, each logger still right -/
theorem treeOk_of {L L' : List Lgr} {H : List Hnd} {q : Int} (h : treeOk L H q = true) (hn : L'.map (·.nm) = L.map (·.nm)) (ha : ∀ l ∈ L', lgrOk H l = true) : treeOk L' H q = true := by
  have hl : L'.length = L.length := by have := congrArg List.length hn; simpa using this
  unfold treeOk lgrsOk at h ⊢
  rw [hn, hl]
  simp only [Bool.and_eq_true, decide_eq_true_eq, List.all_eq_true] at h ⊢
  exact ⟨h.1, h.2.1, ha, h.2.2.2⟩
theorem treeOk_lgr {L : List Lgr} {H : List Hnd} {q : Int} (h : treeOk L H q = true) : ∀ l ∈ L, lgrOk H l = true := by
  unfold treeOk lgrsOk at h
  simp only [Bool.and_eq_true, decide_eq_true_eq, List.all_eq_true] at h
  exact h.2.2.1

def notS (s x : Name) : Bool := !decide (x = s)
def woL (s : Name) (l : Lgr) : Lgr := { l with hs := l.hs.filter (notS s) }
def dropHX (L : List Lgr) (H : List Hnd) (q : Int) (s : Name) : Option TreeD :=
  changedO L H q (if idxL (hnm H) s < 0 then none else some (L.map (woL s), H.eraseIdx (idxL (hnm H) s).toNat, q))
theorem wo_lgrFit {l : Lgr} (s : Name) (h : lgrFit l) : lgrFit (woL s l) := by
  unfold lgrFit at h ⊢
  exact ⟨h.1, ⟨Nat.le_trans (List.length_filter_le _ _) h.2.1.1, fun x hx => h.2.1.2 x ((List.mem_filter.1 hx).1)⟩, h.2.2⟩
theorem dropH_fit {L : List Lgr} {H : List Hnd} (s : Name) (k : Nat) (h : dataFit L H) : dataFit (L.map (woL s)) (H.eraseIdx k) := by
  refine ⟨⟨by rw [List.length_map]; exact h.1.1, fun a ha => ?_⟩, Nat.le_trans (List.eraseIdx_sublist _ _).length_le h.2.1, fun a ha => h.2.2 a ((List.eraseIdx_sublist _ _).subset ha)⟩
  obtain ⟨l, hl, rfl⟩ := List.mem_map.1 ha
  exact wo_lgrFit s (h.1.2 l hl)
theorem wo_lgrOk {H : List Hnd} {l : Lgr} (s : Name) (h : lgrOk H l = true) : lgrOk H (woL s l) = true := by
  unfold lgrOk at h ⊢
  simp only [Bool.and_eq_true, decide_eq_true_eq, List.all_eq_true] at h ⊢
  exact ⟨h.1, h.2.1, h.2.2.1, fun x hx => h.2.2.2.1 x ((List.mem_filter.1 hx).1), h.2.2.2.2.filter _⟩
theorem dropH_ok {L : List Lgr} {H : List Hnd} {q : Int} {s : Name} {k : Nat} (h : treeOk L H q = true) (hk : (hnm H)[k]? = some s) : treeOk (L.map (woL s)) (H.eraseIdx k) q = true := by
  have hn : (L.map (woL s)).map (·.nm) = L.map (·.nm) := by rw [List.map_map]; rfl
  have h' := h
  unfold treeOk lgrsOk hndsOk at h ⊢
  rw [hn, List.length_map]
  simp only [Bool.and_eq_true, decide_eq_true_eq, List.all_eq_true] at h ⊢
  obtain ⟨a, ⟨b1, b2, b3⟩, c, d⟩ := h
  have hsub := List.eraseIdx_sublist H k
  refine ⟨a, ⟨fun x hx => b1 x (hsub.subset hx), (hsub.map _).nodup b2, Nat.le_trans hsub.length_le b3⟩, fun l hl => ?_, d⟩
  obtain ⟨y, hy, rfl⟩ := List.mem_map.1 hl
  have := c y hy
  unfold lgrOk at this ⊢
  simp only [Bool.and_eq_true, decide_eq_true_eq, List.all_eq_true] at this ⊢
  refine ⟨this.1, this.2.1, this.2.2.1, fun x hx => ?_, this.2.2.2.2.filter _⟩
  obtain ⟨hx1, hx2⟩ := List.mem_filter.1 hx
  have hne : x ≠ s := by unfold notS at hx2; simpa using hx2
  have h3 := this.2.2.2.1 x hx1
  unfold hasL at h3 ⊢
  rw [List.any_eq_true] at h3 ⊢
  obtain ⟨g, hg, e⟩ := h3
  refine ⟨g, ?_, e⟩
  have e' := of_decide_eq_true e
  rw [List.mem_eraseIdx_iff_getElem?]
  obtain ⟨i, hi⟩ := List.getElem?_of_mem hg
  refine ⟨i, fun hik => ?_, hi⟩
  subst hik
  unfold hnm at hk
  rw [List.getElem?_map, hi] at hk
  exact hne (e'.symm.trans (Option.some.inj hk))
theorem dropH_res_fit (L : List Lgr) (H : List Hnd) (q : Int) (s : Name) : dataFit (resL (dropHX L H q s)) (resH (dropHX L H q s)) := changed_fit _ _ _ _
theorem dropH_some {L : List Lgr} {H : List Hnd} {q : Int} {s : Name} {k : Nat} (h : treeOk L H q = true) (hk : idxL (hnm H) s = (k : Int)) : dropHX L H q s = some (L.map (woL s), H.eraseIdx k, q) := by
  have e : ¬ ((k : Int) < 0) := by omega
  unfold dropHX changedO
  simp only [hk, h, if_neg e, Int.toNat_natCast, if_true, Option.bind_some]
  unfold ifOk
  rw [dropH_ok h (idx_nat hk).2]; rfl

theorem upd_mem {L : List Lgr} {k : Nat} {f : Lgr → Lgr} {a : Lgr} (ha : a ∈ updL L k f) : a ∈ L ∨ ∃ l, L[k]? = some l ∧ a = f l := by
  unfold updL at ha
  cases e : L[k]? with
  | none => rw [e] at ha; exact .inl ha
  | some l =>
    rw [e] at ha
    rcases List.mem_or_eq_of_mem_set ha with ha | rfl
    · exact .inl ha
    · exact .inr ⟨l, rfl, rfl⟩
theorem upd_map' {β : Type} (g : Lgr → β) (L : List Lgr) (k : Nat) (f : Lgr → Lgr) (h : ∀ l, g (f l) = g l) : (updL L k f).map g = L.map g := by
  unfold updL
  cases e : L[k]? with
  | none => rfl
  | some l =>
    show (L.set k (f l)).map g = L.map g
    rw [List.map_set, h]
    refine List.ext_getElem? fun i => ?_
    by_cases hi : i = k
    · subst hi
      rw [List.getElem?_set_self (by rw [List.length_map]; exact (List.getElem?_eq_some_iff.1 e).1), List.getElem?_map, e]; rfl
    · rw [List.getElem?_set_ne (by omega)]
theorem updl_fit {L : List Lgr} {H : List Hnd} {k : Nat} {f : Lgr → Lgr} (h : dataFit L H) (hf : ∀ l, L[k]? = some l → lgrFit l → lgrFit (f l)) : dataFit (updL L k f) H := by
  refine ⟨⟨?_, fun a ha => ?_⟩, h.2⟩
  · unfold updL; split
    · rw [List.length_set]; exact h.1.1
    · exact h.1.1
  · rcases upd_mem ha with ha | ⟨l, hl, rfl⟩
    · exact h.1.2 a ha
    · exact hf l hl (h.1.2 l (List.mem_of_getElem? hl))
theorem wo_ok {L : List Lgr} {H : List Hnd} {q : Int} (k : Nat) (s : Name) (h : treeOk L H q = true) : treeOk (updL L k (woL s)) H q = true := by
  refine treeOk_of h (upd_map' (·.nm) L k (woL s) (fun _ => rfl)) fun a ha => ?_
  rcases upd_mem ha with ha | ⟨l, hl, rfl⟩
  · exact treeOk_lgr h a ha
  · exact wo_lgrOk s (treeOk_lgr h l (List.mem_of_getElem? hl))

def addHL (s : Name) (l : Lgr) : Lgr := if s ∈ l.hs then l else { l with hs := l.hs ++ [s] }
theorem addHL_nm (s : Name) (l : Lgr) : (addHL s l).nm = l.nm := by unfold addHL; split <;> rfl
theorem addH_ok {L : List Lgr} {H : List Hnd} {q : Int} {k : Nat} {l : Lgr} (s : Name) (h : treeOk L H q = true) (hl : L[k]? = some l) : treeOk (updL L k (addHL s)) H q = decide (s ∈ hnm H) := by
  have hm := treeOk_lgr h l (List.mem_of_getElem? hl)
  have hiff : ∀ x, hasL H x = true ↔ x ∈ hnm H := fun x => by
    unfold hasL hnm
    rw [List.any_eq_true, List.mem_map]
    exact ⟨fun ⟨y, a, b⟩ => ⟨y, a, of_decide_eq_true b⟩, fun ⟨y, a, b⟩ => ⟨y, a, decide_eq_true b⟩⟩
  by_cases hs : s ∈ hnm H
  · rw [decide_eq_true hs]
    refine treeOk_of h (upd_map' (·.nm) L k (addHL s) (addHL_nm s)) fun a ha => ?_
    rcases upd_mem ha with ha | ⟨l', hl', rfl⟩
    · exact treeOk_lgr h a ha
    · rw [hl] at hl'
      obtain rfl := Option.some.inj hl'
      unfold addHL
      split
      · exact hm
      · rename_i hn
        unfold lgrOk at hm ⊢
        simp only [Bool.and_eq_true, decide_eq_true_eq, List.all_eq_true] at hm ⊢
        refine ⟨hm.1, hm.2.1, hm.2.2.1, fun x hx => ?_, ?_⟩
        · rcases List.mem_append.1 hx with hx | hx
          · exact hm.2.2.2.1 x hx
          · rw [List.mem_singleton] at hx; subst hx; exact (hiff _).2 hs
        · exact List.nodup_append.2 ⟨hm.2.2.2.2, List.nodup_cons.2 ⟨by simp, List.nodup_nil⟩, fun a ha b hb e => by
            rw [List.mem_singleton] at hb; rw [e, hb] at ha; exact hn ha⟩
  · rw [decide_eq_false hs]
    have hn : s ∉ l.hs := fun hx => by
      unfold lgrOk at hm
      simp only [Bool.and_eq_true, decide_eq_true_eq, List.all_eq_true] at hm
      exact hs ((hiff _).1 (hm.2.2.2.1 s hx))
    cases hc : treeOk (updL L k (addHL s)) H q with
    | false => rfl
    | true =>
      exfalso
      have h2 := treeOk_lgr hc (addHL s l) (by
        unfold updL; rw [hl]
        exact List.mem_of_getElem? (List.getElem?_set_self (List.getElem?_eq_some_iff.1 hl).1))
      unfold addHL at h2
      rw [if_neg hn] at h2
      unfold lgrOk at h2
      simp only [Bool.and_eq_true, decide_eq_true_eq, List.all_eq_true] at h2
      exact hs ((hiff _).1 (h2.2.2.2.1 s (by simp)))

def keepL (l : Lgr) : Bool := !(!decide (l.nm = []) && (decide (l.lv = 0) && (decide (l.hs.length = 0) && (decide (l.fs.length = 0) && (!l.stop && !l.off)))))
def dropPX (L : List Lgr) (H : List Hnd) (q : Int) : Option TreeD := changedO L H q (some (L.filter keepL, H, q))
theorem dropP_res_fit (L : List Lgr) (H : List Hnd) (q : Int) : dataFit (resL (dropPX L H q)) (resH (dropPX L H q)) := changed_fit _ _ _ _
theorem dropP_ok {L : List Lgr} {H : List Hnd} {q : Int} (h : treeOk L H q = true) : treeOk (L.filter keepL) H q = true := by
  obtain ⟨_, _, _, h8, h1, h0⟩ := tree_names h
  refine sub_ok h List.filter_sublist ?_
  cases L with
  | nil => rfl
  | cons a L =>
    have ha : a.nm = [] := by
      unfold treeOk lgrsOk at h
      simp only [Bool.and_eq_true, decide_eq_true_eq] at h
      have := h.2.2.2.2.2.2
      simpa using this
    have hk : keepL a = true := by unfold keepL; rw [ha]; simp
    rw [List.filter_cons, if_pos hk]; rfl
theorem dropP_some {L : List Lgr} {H : List Hnd} {q : Int} (h : treeOk L H q = true) : dropPX L H q = some (L.filter keepL, H, q) := by
  unfold dropPX changedO
  rw [h]
  simp only [if_true, Option.bind_some]
  unfold ifOk
  rw [dropP_ok h]; rfl
end Go.Proofs.Ytjejildgbmkbbaa

/-
  slices.Delete of a list of the call's own. By gen_dl2.py.
-/
namespace Go.Proofs.Ytjejildgbmkbbaa
open Go.RowKit Nm
set_option linter.unusedSimpArgs false
set_option linter.unusedVariables false

theorem own_cut {w : World} {lo size n cap g : Nat} {e : TypeId} {xs : List Value} (h : w.ownsRow lo e size (.slice (some ⟨g, 0, none⟩) n cap) n xs) {k : Nat} (hk : k ≤ n) : w.ownsRow lo e size (.slice (some ⟨g, 0, none⟩) k cap) k (xs.take (k * size)) := by
  have h1 := h.1
  have h3 : k * size ≤ n * size := Nat.mul_le_mul_right _ hk
  rcases h.2 with ⟨h', _⟩ | ⟨g', cap', cur, h', hb, hg, hnc, hcm, hcs, ht⟩
  · simp at h'
  · simp only [Value.slice.injEq, Option.some.injEq, Addr.mk.injEq, and_true, true_and] at h'
    obtain ⟨rfl, rfl⟩ := h'
    refine ⟨by rw [List.length_take, h1]; exact Nat.min_eq_left h3, .inr ⟨g, cap, cur, rfl, hb, hg, by omega, hcm, hcs, ?_⟩⟩
    rw [← ht, List.take_take, Nat.min_eq_left h3]
theorem run_delete {P : Program} {W : World} {lo size m cap g k : Nat} {e t : TypeId} {i : TypeInfo} {xs : List Value} (ht : P.underlying t = some (.slice e)) (hi : P.info? e = some i) (hsize : i.size = size)
    (h : W.ownsRow lo e size (.slice (some ⟨g, 0, none⟩) (m + 1) cap) (m + 1) xs) (hk : k ≤ m) (hc : m + 1 ≤ cap) (h1 : ∀ u ∈ xs, u.oneCell' = true) {A : Addr} (hA : (if cap = k + 1 then (some ⟨g, 0, none⟩ : Option Addr) else some ⟨g, (k + 1) * size, none⟩) = some A) :
    ∃ w', (Builtin.append_ #[t, t] t #[.slice (some ⟨g, 0, none⟩) k cap, .slice (some A) (m - k) (cap - (k + 1))]).run P W = .ok (.slice (some ⟨g, 0, none⟩) m cap) w' ∧
      w'.ownsRow lo e size (.slice (some ⟨g, 0, none⟩) m cap) m (xs.take (k * size) ++ xs.drop ((k + 1) * size)) ∧ W.grownBy w' (some g) := by
  have hl := h.1
  have e1 : k + (m - k) = m := by omega
  have e2 : (m + 1) * size - (k + 1) * size = (m - k) * size := by rw [← Nat.sub_mul]; congr 1; omega
  obtain ⟨w', a, b, c⟩ := run_append_fits (P := P) W lo t t e i size ht hi hsize g k cap (xs.take (k * size)) (own_cut h (by omega)) A (m - k) (cap - (k + 1)) (xs.drop ((k + 1) * size)) (by rw [List.length_drop, hl, e2]) (fun j u hu => by
    rw [List.getElem?_drop] at hu
    have hj := (List.getElem?_eq_some_iff.1 hu).1
    have hpos : (k + 1) * size + j < (m + 1) * size := by rw [hl] at hj; exact hj
    have hne : ¬ cap = k + 1 := fun e0 => by
      have : k = m := by omega
      subst this
      omega
    rw [if_neg hne] at hA
    obtain rfl := Option.some.inj hA
    rw [Addr.add_lit, h.cellAt _ hpos]
    exact hu) (fun u hu => h1 u (List.mem_of_mem_drop hu)) (by omega)
  rw [e1] at a b
  exact ⟨w', a, b, c⟩
theorem run_clear_own {P : Program} {W : World} {lo size n cap g o q c : Nat} {e t ty : TypeId} {z : Value} {xs : List Value} (ht : P.underlying t = some (.slice e)) (hz : (zeroValue e).run P W = .ok z W) (hzs : z.cells.size = size) (hz1 : ∀ u ∈ z.cells.toList, u.oneCell' = true)
    (h : W.ownsRow lo e size (.slice (some ⟨g, 0, none⟩) n cap) n xs) (hno : n * size ≤ o) (hoc : o + q * size ≤ cap * size) (hq : 0 < q) :
    ∃ W', (Builtin.clear_ #[t] ty #[.slice (some ⟨g, o, none⟩) q c]).run P W = .ok (.tuple #[]) W' ∧ W'.ownsRow lo e size (.slice (some ⟨g, 0, none⟩) n cap) n xs ∧ W.grownBy W' (some g) := by
  have h1 := h.1
  rcases h.2 with ⟨h', _⟩ | ⟨g', cap', cur, h', hb, hg, hnc, hcm, hcs, htk⟩
  · simp at h'
  · simp only [Value.slice.injEq, Option.some.injEq, Addr.mk.injEq, and_true, true_and] at h'
    obtain ⟨rfl, rfl⟩ := h'
    have hzl : (Builtin.zeroCells z.cells q).toList.length = q * size := by rw [Array.length_toList, size_zeroCells, hzs]
    have hfit : o + 0 + (Builtin.zeroCells z.cells q).toList.length ≤ cur.size := by rw [hzl, hcs]; omega
    have hst := run_storeCells_at P g o e (Builtin.zeroCells z.cells q).toList 0 cur W hg hfit (fun u hu => by
      unfold Builtin.zeroCells at hu
      rw [Array.toList_map] at hu
      obtain ⟨j, hj, rfl⟩ := List.mem_map.1 hu
      by_cases hs : z.cells.size = 0
      · rw [Array.toList_range, List.mem_range, hs] at hj; omega
      · have hlt : j % z.cells.size < z.cells.size := Nat.mod_lt _ (by omega)
        rw [getElem!_pos z.cells _ hlt]
        exact hz1 _ (Array.getElem_mem_toList hlt))
    obtain ⟨q', rfl⟩ : ∃ q', q = q' + 1 := ⟨q - 1, by omega⟩
    refine ⟨_, by simp [Builtin.clear_, run_underlying ht, hz, hst]; rfl, ?_, ?_⟩
    · refine ⟨h1, .inr ⟨g, cap, _, rfl, hb, setRow_heap W g cur _ e _ hg, hnc, hcm, ?_, ?_⟩⟩
      · simp only [List.size_toArray, List.length_append, List.length_take, List.length_drop, Array.length_toList] at hfit ⊢
        omega
      · simp only [Nat.add_zero, List.append_assoc]
        rw [List.take_append_of_le_length (by rw [List.length_take, Array.length_toList]; rw [hzl] at hfit; omega), List.take_take, Nat.min_eq_left hno, htk]
    · exact ⟨rfl, rfl, rfl, by simp [World.setRow], fun k _ hk => setRow_other W g k _ (fun e => hk (by simp [e]))⟩

theorem grown_dr (w : World) (row : Option Nat) : w.grownBy w.drew row := ⟨rfl, rfl, rfl, Nat.le_refl _, fun _ _ _ => rfl⟩
theorem grown2 {a b c : World} {row : Option Nat} (h1 : a.grownBy b row) (h2 : b.grownBy c row) : a.grownBy c row := ⟨h2.os.trans h1.os, h2.tape.trans h1.tape, h2.output.trans h1.output, Nat.le_trans h1.size h2.size, fun k hk hr => (h2.block k (Nat.lt_of_lt_of_le hk h1.size) hr).trans (h1.block k hk hr)⟩

theorem zeroLgr (w : World) : (zeroValue 48).run Try.prog w = .ok (.agg #[.string ByteArray.empty, .int .i64 0, .slice none 0 0, .slice none 0 0, .bool false, .bool false]) w := by kernel_rfl
theorem zeroHnd (w : World) : (zeroValue 59).run Try.prog w = .ok (.agg #[.string ByteArray.empty, .int .i64 0, .slice none 0 0]) w := by kernel_rfl
end Go.Proofs.Ytjejildgbmkbbaa

/-
  A HANDLER TAKEN AWAY FROM A LOGGER: slices.DeleteFunc over texts, detach; the model's without.
-/
namespace Go.Proofs.Ytjejildgbmkbbaa
open Go.RowKit Nm
set_option linter.unusedSimpArgs false
set_option linter.unusedVariables false

theorem Rows.app2 {w w' : World} {lo : Nat} {r r' : Row} {pre post : List Row} (h : Rows w lo (pre ++ r :: post)) (hg : w.grownBy w' r.v.ownBlock) (ho : r'.own w' lo) (hloc : ∀ z, r'.v.ownBlock = some z → r.v.ownBlock = some z ∨ w.heap.size ≤ z) :
    Rows w' lo (pre ++ r' :: post) := by
  have hp := List.pairwise_append.1 h.2
  have hp2 := List.pairwise_cons.1 hp.2.1
  have ap : ∀ x : Row, x.apart r → x.own w lo → x.apart r' := fun x hx hxo => by
    constructor
    · cases hq : x.v.ownBlock with
      | none => exact .inl rfl
      | some g =>
        right; intro e2
        rcases hloc g e2.symm with e | e
        · rcases hx.1 with h0 | h0
          · rw [hq] at h0; cases h0
          · exact h0 (hq.trans e.symm)
        · have := (hxo.lt g hq).2; omega
    · cases hq : r'.v.ownBlock with
      | none => exact .inl rfl
      | some g =>
        right; intro e2
        rcases hloc g hq with e | e
        · rcases hx.2 with h0 | h0
          · rw [e] at h0; cases h0
          · exact h0 (e.trans e2)
        · have := (hxo.lt g e2.symm).2; omega
  have own1 : ∀ x ∈ pre, x.own w lo := fun x hx => h.1 x (by simp [hx])
  have own2 : ∀ x ∈ post, x.own w lo := fun x hx => h.1 x (by simp [hx])
  refine ⟨fun x hx => ?_, ?_⟩
  · rcases List.mem_append.1 hx with hx | hx
    · exact (own1 x hx).kept hg (hp.2.2 x hx r (by simp)).1
    · rcases List.mem_cons.1 hx with rfl | hx
      · exact ho
      · exact (own2 x hx).kept hg (hp2.1 x hx).2
  · refine List.pairwise_append.2 ⟨hp.1, List.pairwise_cons.2 ⟨fun b hb => ?_, hp2.2⟩, fun a ha b hb => ?_⟩
    · exact (ap b (hp2.1 b hb).symm (own2 b hb)).symm
    · rcases List.mem_cons.1 hb with rfl | hb
      · exact ap a (hp.2.2 a ha r (by simp)) (own1 a ha)
      · exact hp.2.2 a ha b (by simp [hb])
/-- an element's inner row is another one, and one of its cells is set -/
theorem Rows.rowcell {α : Type} {w w' : World} {lo d e n g c i j q : Nat} {T : TypeId} {fc : α → List Value} {fr : α → List Row} {l : List α} {pre post : List Row} {x y : α} {r r' : Row} {u : Value} (hfc : ∀ x, (fc x).length = d) (hfr : ∀ x, (fr x).length = e)
    (h : Rows w lo (pre ++ two T d n (.slice (some ⟨g, 0, none⟩) n c) fc fr l ++ post)) (hx : l[i]? = some x) (hj : j < e) (hr : (fr x)[j]? = some r) (hg : w.grownBy w' r.v.ownBlock) (ho : r'.own w' lo) (hloc : ∀ z, r'.v.ownBlock = some z → r.v.ownBlock = some z ∨ w.heap.size ≤ z)
    (hq : q < d) (hc : fc y = (fc x).set q u) (hry : fr y = (fr x).set j r') : Rows (w'.setCell ⟨g, i * d + q, none⟩ u) lo (pre ++ two T d n (.slice (some ⟨g, 0, none⟩) n c) fc fr (l.set i y) ++ post) := by
  have hin : i * e + j < (l.flatMap fr).length := by
    have := flat_get fr e hfr l i j x hx hj
    rw [hr] at this
    exact (List.getElem?_eq_some_iff.1 this).1
  have hJ : (pre ++ two T d n (.slice (some ⟨g, 0, none⟩) n c) fc fr l ++ post)[pre.length + (1 + (i * e + j))]? = some r := by
    rw [two, List.append_assoc, List.getElem?_append_right (by omega), show pre.length + (1 + (i * e + j)) - pre.length = (i * e + j) + 1 by omega, List.cons_append, List.getElem?_cons_succ, List.getElem?_append_left hin, flat_get fr e hfr l i j x hx hj, hr]
  have hl := (List.getElem?_eq_some_iff.1 hJ).1
  generalize hrs : pre ++ two T d n (.slice (some ⟨g, 0, none⟩) n c) fc fr l ++ post = rs at *
  have e0 : rs = rs.take (pre.length + (1 + (i * e + j))) ++ r :: rs.drop (pre.length + (1 + (i * e + j)) + 1) := by
    have := (List.getElem?_eq_some_iff.1 hJ).2
    rw [← this, ← List.drop_eq_getElem_cons hl, List.take_append_drop]
  rw [e0] at h
  have h1 := h.app2 hg ho hloc
  have e9 : rs.take (pre.length + (1 + (i * e + j))) ++ r' :: rs.drop (pre.length + (1 + (i * e + j)) + 1) = rs.set (pre.length + (1 + (i * e + j))) r' := by rw [List.set_eq_take_append_cons_drop, if_pos hl]
  rw [e9] at h1
  have e1 : rs.set (pre.length + (1 + (i * e + j))) r' = pre ++ (⟨T, d, n, .slice (some ⟨g, 0, none⟩) n c, l.flatMap fc⟩ :: (l.set i y).flatMap fr) ++ post := by
    rw [← hrs, two, List.append_assoc, List.set_append_right _ _ (by omega), show pre.length + (1 + (i * e + j)) - pre.length = (i * e + j) + 1 by omega, List.cons_append, List.set_cons_succ, List.set_append_left _ _ hin, flat_set fr e hfr l i j x y _ hx hj hry]
    simp
  rw [e1] at h1
  have hs := (show w'.ownsRow lo T d (.slice (some ⟨g, 0, none⟩) n c) n (l.flatMap fc) from h1.1 ⟨T, d, n, .slice (some ⟨g, 0, none⟩) n c, l.flatMap fc⟩ (by simp)).stored (i * d + q) u
  have h2 := h1.put (j := pre.length) (r := ⟨T, d, n, .slice (some ⟨g, 0, none⟩) n c, l.flatMap fc⟩) (by rw [List.append_assoc, List.getElem?_append_right (Nat.le_refl _), Nat.sub_self]; simp) hs.2 hs.1
  rw [flat_set fc d hfc l i q x y u hx hq hc] at h2
  have e2 : (pre ++ (⟨T, d, n, .slice (some ⟨g, 0, none⟩) n c, l.flatMap fc⟩ :: (l.set i y).flatMap fr) ++ post).set pre.length ⟨T, d, n, .slice (some ⟨g, 0, none⟩) n c, (l.set i y).flatMap fc⟩ = pre ++ two T d n (.slice (some ⟨g, 0, none⟩) n c) fc fr (l.set i y) ++ post := by
    rw [List.append_assoc, List.set_append_right _ _ (Nat.le_refl _), Nat.sub_self, two]
    simp
  rw [e2] at h2
  exact h2

set_option maxHeartbeats 1000000 in
set_option maxRecDepth 100000 in
theorem detachFn_c (a s : ByteArray) (bx : Nat) (w : World) (hc : w.cell? ⟨bx, 0, none⟩ = some (.string s)) :
    Calls Try.prog 45 #[.string a, .pointer (some ⟨bx, 0, none⟩)] w (BoolPost w (decide (a.data.toList = s.data.toList))) := by
  have e0 := beq_txt a s
  go_enter Try.func45, Try.ntmps45
  go_wp2_with fail
  go_ret
  exact ⟨ret_bool (decide_eq_decide.2 Array.toList_inj.symm), by go_grown⟩

set_option maxHeartbeats 4000000 in
set_option maxRecDepth 100000 in
theorem indexTxtFn_c (v : Value) (n B bx : Nat) (l : List Name) (s : ByteArray) (w : World) (hv : Sl w B 1 n v (l.map txt)) (hB : B ≤ w.heap.size) (hc : w.cell? ⟨bx, 0, none⟩ = some (.string s)) :
    Calls Try.prog 60 #[v, .func (.func 45) #[] #[.pointer (some ⟨bx, 0, none⟩)]] w
      (fun e w' => e = .returned (.int .i64 (idxL l s.data.toList)) ∧ Below w.heap.size w w') := by
  have hlt0 : bx < w.heap.size := World.block_lt_of_cell? w _ hc
  have hln : l.length = n := by have := hv.1; simpa using this
  obtain ⟨A, c, rfl, hnc, hcm⟩ := hv.form
  unfold maxLen at hcm
  have HV := hid (And.intro hv hln)
  have HC := hid (And.intro hc hlt0)
  clear hv hln hc hlt0
  go_enter Try.func60, Try.ntmps60
  go_wp2_with fail
  go_loopw [5, 8] (fun av iv wr => ∃ (k : Nat) (u : Value), iv = .int .i64 k ∧ av = u ∧ k ≤ n ∧ Hid (¬ s.data.toList ∈ l.take k) ∧ Hid (Below w.heap.size w wr)) (fun _ iv _ => n - (intOf iv).toNat)
  case atStart => exact ⟨0, _, rfl, rfl, by omega, by simp [Hid], Below.refl _ _⟩
  case round =>
    obtain ⟨k, u, rfl, rfl, hk, HN, HB⟩ := hrel
    by_cases hlt : k < n
    · obtain ⟨b, o, a, rfl, hbB, hx, c0⟩ := (HV.out.1.below HB.out hB).text hlt
      have E := hid (detachFn_c a s bx wr ((HB.out.cell (p := ⟨bx, 0, none⟩) HC.out.2).trans HC.out.1))
      have HX := hid hx
      cases hz : decide (a.data.toList = s.data.toList) with
      | true =>
        rw [hz] at E
        have HZ := hid hz
        clear hx hz
        go_wp2_with (go_at_call 45; refine (E.out).mono ?_; rintro e w2 ⟨rfl, hb⟩)
        go_ret
        refine ⟨ret_int ?_, HB.out.trans (hb.mono HB.out.size)⟩
        have h := of_decide_eq_true HZ.out
        rw [idx_hit _ _ k (by rw [HX.out, h]) HN.out]
      | false =>
        rw [hz] at E
        have HZ := hid hz
        clear hx hz
        go_wp2_with (go_at_call 45; refine (E.out).mono ?_; rintro e w2 ⟨rfl, hb⟩)
        go_roundw
        case rel => exact ⟨k + 1, _, by go_num, rfl, by omega, not_take_succ _ _ _ _ HN.out HX.out (of_decide_eq_false HZ.out), HB.out.trans (hb.mono HB.out.size)⟩
        case measure => simp [intOf]; omega
    · have HE := hid (show ¬ s.data.toList ∈ l by
        have h := HN.out
        rwa [List.take_of_length_le (by have := HV.out.2; omega)] at h)
      go_wp2_with fail
      go_ret
      exact ⟨ret_int (by rw [idx_miss _ _ HE.out]), HB.out⟩
end Go.Proofs.Ytjejildgbmkbbaa

/-
  slices.DeleteFunc over texts of the call's own; detach; the model's without.
-/
namespace Go.Proofs.Ytjejildgbmkbbaa
open Go.RowKit Nm
set_option linter.unusedSimpArgs false
set_option linter.unusedVariables false

theorem notS_self (s : Name) : notS s s = false := by simp [notS]
theorem notS_ne {s x : Name} (h : ¬ x = s) : notS s x = true := by simp [notS, h]
theorem filt_none {s : Name} {l : List Name} (h : s ∉ l) : l.filter (notS s) = l := List.filter_eq_self.2 fun x hx => notS_ne fun e => h (e ▸ hx)
theorem take_snoc {α : Type} {l : List α} {j : Nat} {x : α} (h : l[j]? = some x) : l.take (j + 1) = l.take j ++ [x] := by rw [List.take_add_one, h]; rfl
theorem filt_keep {s x : Name} {l : List Name} {j : Nat} (h : l[j]? = some x) (hne : ¬ x = s) : (l.take (j + 1)).filter (notS s) = (l.take j).filter (notS s) ++ [x] := by
  rw [take_snoc h, List.filter_append, List.filter_cons, if_pos (notS_ne hne)]; rfl
theorem filt_drop {s : Name} {l : List Name} {j : Nat} (h : l[j]? = some s) : (l.take (j + 1)).filter (notS s) = (l.take j).filter (notS s) := by
  rw [take_snoc h, List.filter_append, List.filter_cons, notS_self]; simp
theorem take_idx (l : List Name) (x : Name) : x ∉ l.take (l.idxOf x) := by
  induction l with
  | nil => simp
  | cons a t ih =>
    rw [List.idxOf_cons]
    by_cases h : a = x
    · simp [h]
    · have hb : (a == x) = false := by simpa using h
      rw [hb, cond_false, List.take_succ_cons]
      intro hm
      rcases List.mem_cons.1 hm with e | e
      · exact h e.symm
      · exact ih e
theorem drop_next {α : Type} {a b : List α} {j : Nat} (h : a.drop j = b.drop j) : a.drop (j + 1) = b.drop (j + 1) := by
  rw [← List.drop_drop, ← List.drop_drop, h]
theorem at_drop {α : Type} {a b : List α} {j : Nat} (h : a.drop j = b.drop j) : a[j]? = b[j]? := by
  have := congrArg (fun l => l[0]?) h
  simpa using this

theorem zeroStr (w : World) : (zeroValue 9).run Try.prog w = .ok (.string ByteArray.empty) w := by kernel_rfl
set_option maxHeartbeats 8000000 in
set_option maxRecDepth 100000 in
theorem deleteTxt_c {W : World} {lo n bx : Nat} {l : List Name} {v : Value} (s : ByteArray) (hown : W.ownsRow lo 9 1 v n (l.map txt)) (hn : n ≤ 64) (hlo : lo ≤ W.heap.size) (hc : W.cell? ⟨bx, 0, none⟩ = some (.string s)) (hbx : v.ownBlock ≠ some bx) :
    Calls Try.prog 44 #[v, .func (.func 45) #[] #[.pointer (some ⟨bx, 0, none⟩)]] W
      (fun e w' => ∃ v', e = .returned v' ∧ w'.ownsRow lo 9 1 v' (l.filter (notS s.data.toList)).length ((l.filter (notS s.data.toList)).map txt) ∧ W.grownBy w' v.ownBlock ∧ v'.ownBlock = v.ownBlock) := by
  have hln : l.length = n := by have := hown.1; simpa using this
  have C := indexTxtFn_c v n W.heap.size bx l s W (Sl.of_own hown) (Nat.le_refl _) hc
  have hbxl : bx < W.heap.size := World.block_lt_of_cell? _ _ hc
  by_cases hin : s.data.toList ∈ l
  · obtain ⟨k0, hk0, hkl, hkx⟩ : ∃ k : Nat, idxL l s.data.toList = (k : Int) ∧ k < l.length ∧ l[k]? = some s.data.toList := by
      have h0 : idxL l s.data.toList = (l.idxOf s.data.toList : Int) := by unfold idxL; rw [if_pos hin]
      exact ⟨_, h0, idx_nat h0⟩
    have hk0' : k0 = l.idxOf s.data.toList := by
      have h0 : idxL l s.data.toList = (l.idxOf s.data.toList : Int) := by unfold idxL; rw [if_pos hin]
      omega
    have hnot : s.data.toList ∉ l.take k0 := by rw [hk0']; exact take_idx l _
    rw [hk0] at C
    obtain ⟨A, c, rfl, hnc, hcm⟩ := (Sl.of_own hown).form
    obtain ⟨g, rfl, hgl⟩ := own_some hown (by omega)
    have hgx : g ≠ bx := fun e => hbx (by rw [← e]; rfl)
    unfold maxLen at hcm
    have hk0n : k0 < n := by omega
    have s0 : IntKind.i64.wrap ((k0 : Int) + 1) = (k0 : Int) + 1 := by rw [IntKind.wrap_i64]; omega
    have s1 : ((k0 : Int) == -1) = false := by simp
    have HC := hid hc
    have HO := hid hown
    have HLn := hid hln
    have HX := hid (And.intro hkx hnot)
    have hzero := zeroStr
    replace C := hid C
    clear hc hown hln hkx hnot hin hk0 hk0' hbx hkl
    go_enter Try.func44, Try.ntmps44
    go_wp2_with fail
    refine (C.out).mono ?_
    rintro e w1 ⟨rfl, hb⟩
    have HO1 := hid (own_below HO.out hb)
    have HG1 := hid (grown_of hb (some g))
    clear hb
    go_wp2_with fail
    go_loopw [5, 6, 7] (fun iv jv av wr => ∃ (i j : Nat) (cur : List Name) (u : Value), iv = .int .i64 i ∧ jv = .int .i64 j ∧ av = u ∧ i < j ∧ j ≤ n ∧ Hid (cur.take i = (l.take j).filter (notS s.data.toList)) ∧ Hid (cur.drop j = l.drop j) ∧ Hid (cur.length = n) ∧ Hid (wr.ownsRow lo 9 1 (.slice (some ⟨g, 0, none⟩) n c) n (cur.map txt)) ∧ Hid (W.grownBy wr (some g))) (fun _ jv _ _ => n - (intOf jv).toNat)
    case atStart =>
      refine ⟨k0, k0 + 1, l, _, rfl, by go_num, rfl, by omega, by omega, ?_, rfl, HLn.out, HO1.out, HG1.out⟩
      show _ = _
      rw [filt_drop HX.out.1, filt_none HX.out.2]
    case round =>
      obtain ⟨i, j, cur, u, rfl, rfl, rfl, hij, hj, HT, HD, HLc, HOr, HGr⟩ := hrel
      by_cases hlt : j < n
      · obtain ⟨b, o, p, eA, _, hx, c0⟩ := (Sl.of_own HOr.out).text hlt
        have eA' : g = b ∧ o = 0 := by simp at eA; exact ⟨eA.1, eA.2.symm⟩
        obtain ⟨rfl, rfl⟩ := eA'
        simp only [Nat.zero_add] at c0
        have hlx : l[j]? = some p.data.toList := by rw [← at_drop HD.out]; exact hx
        have cx : wr.cell? ⟨bx, 0, none⟩ = some (.string s) := (World.cell?_of_block (HGr.out.block bx hbxl (fun e => hgx (Option.some.inj e).symm))).trans HC.out
        have E := hid (detachFn_c p s bx wr cx)
        have HP := hid (And.intro hlx hx)
        have s2 : (0 : Int) ≤ (j : Int) := by omega
        have s3 : (j : Int) < (n : Int) := by omega
        have s4 : ((j : Int)).toNat = j := by simp
        clear hx hlx eA cx
        cases hz : decide (p.data.toList = s.data.toList) with
        | true =>
          rw [hz] at E
          have HZ := hid (of_decide_eq_true hz)
          clear hz
          go_wp2_with (go_at_call 45; refine (E.out).mono ?_; rintro e w2 ⟨rfl, hb⟩)
          have HO2 := hid (own_below HOr.out hb)
          have HG2 := hid (grown2 HGr.out (grown_of hb (some g)))
          clear hb c0
          go_roundw
          case rel =>
            refine ⟨i, j + 1, cur, _, rfl, by go_num, rfl, by omega, by omega, ?_, drop_next HD.out, HLc.out, HO2.out, HG2.out⟩
            show _ = _
            rw [filt_drop (by rw [← HZ.out]; exact HP.out.1)]; exact HT.out
          case measure => simp [intOf]; omega
        | false =>
          rw [hz] at E
          have HZ := hid (of_decide_eq_false hz)
          have t2 : (0 : Int) ≤ (i : Int) := by omega
          have t3 : (i : Int) < (n : Int) := by omega
          have t4 : ((i : Int)).toNat = i := by simp
          clear hz
          obtain ⟨y, hy⟩ : ∃ y, cur[i]? = some y := ⟨_, List.getElem?_eq_getElem (by have := HLc.out; omega)⟩
          obtain ⟨py, hpy, _⟩ := txt_mk y
          have HY := hid (And.intro hy hpy)
          have HSt := hid (fun (w2 : World) (hb : Below wr.heap.size wr w2) => (show (w2.cell? ⟨g, i, none⟩ = some (.string py) ∧ w2.frozen? ⟨g, i, none⟩ = false) ∧ (w2.setCell ⟨g, i, none⟩ (.string p)).ownsRow lo 9 1 (.slice (some ⟨g, 0, none⟩) n c) n ((cur.map txt).set i (.string p)) ∧ W.grownBy (w2.setCell ⟨g, i, none⟩ (.string p)) (some g) from by
            have ho2 := own_below HOr.out hb
            have st := ho2.stored i (.string p)
            refine ⟨⟨?_, ho2.frozenAt i⟩, st.1, grown2 (grown2 HGr.out (grown_of hb (some g))) st.2⟩
            have h9 := ho2.cellAt i (by omega)
            rw [List.getElem?_map, HY.out.1] at h9
            rw [← HY.out.2]; exact h9))
          clear hy hpy
          go_wp2_with (go_at_call 45; refine (E.out).mono ?_; rintro e w2 ⟨rfl, hb⟩; have hst := HSt.out w2 hb; have hzc := hst.1.1; have hzf := hst.1.2; have HO3 := hid hst.2.1; have HG3 := hid hst.2.2; clear hst hb c0)
          go_roundw
          case rel =>
            refine ⟨i + 1, j + 1, cur.set i p.data.toList, _, by go_num, by go_num, rfl, by omega, by omega, ?_, ?_, by show (cur.set i _).length = n; rw [List.length_set]; exact HLc.out, ?_, HG3.out⟩
            · show _ = _
              rw [take_set HY.out.1, HT.out, filt_keep HP.out.1 HZ.out]
            · show _ = _
              rw [List.drop_set_of_lt (by omega)]; exact drop_next HD.out
            · show World.ownsRow _ _ _ _ _ _ _
              rw [List.map_set, txt_data]
              exact HO3.out
          case measure => simp [intOf]; omega
      · obtain rfl : j = n := by omega
        have hfin : cur.take i = l.filter (notS s.data.toList) := by
          have h := HT.out
          rwa [List.take_of_length_le (l := l) (by have := HLn.out; omega)] at h
        have hcut := own_cut HOr.out (k := i) (by omega)
        obtain ⟨w9, hcl, ho9, hg9⟩ := run_clear_own (P := Try.prog) (ty := 0) (c := c - i) Try.underlying37 (hzero wr) (size := 1) rfl (by decide) hcut (o := i) (q := j - i) (by omega) (by omega) (by omega)
        have hcl' : ∀ ty, (Builtin.clear_ #[37] ty #[.slice (some ⟨g, i, none⟩) (j - i) (c - i)]).run Try.prog wr = .ok (.tuple #[]) w9 := fun ty => hcl
        have hlen : (l.filter (notS s.data.toList)).length = i := by rw [← hfin, List.length_take]; have := HLc.out; omega
        have HO9 := hid (show w9.ownsRow lo 9 1 (.slice (some ⟨g, 0, none⟩) i c) (l.filter (notS s.data.toList)).length ((l.filter (notS s.data.toList)).map txt) by
          rw [hlen, ← hfin, List.map_take]; rw [Nat.mul_one] at ho9; exact ho9)
        have HG9 := hid (grown2 HGr.out hg9)
        have t2 : (0 : Int) ≤ (i : Int) := by omega
        have t3 : (i : Int) ≤ (j : Int) := by omega
        have t4 : ((i : Int)).toNat = i := by simp
        have t5 : (i : Int) ≤ (c : Int) := by omega
        have t6 : ¬ c = i := by omega
        have t7 : i ≤ j := by omega
        have t8 : i ≤ c := by omega
        clear hfin hcut hcl ho9 hg9 hlen
        go_wp2_with fail
        go_ret
        exact ⟨_, rfl, HO9.out, HG9.out, rfl⟩
  · rw [idx_miss _ _ hin] at C
    have HF := hid (filt_none hin)
    have HO := hid hown
    have HLn := hid hln
    replace C := hid C
    obtain ⟨A, c, rfl, _, _⟩ := (Sl.of_own hown).form
    clear hown hin hln hc
    go_enter Try.func44, Try.ntmps44
    go_wp2_with fail
    refine (C.out).mono ?_
    rintro e w1 ⟨rfl, hb⟩
    have HB := hid hb
    clear hb
    go_wp2_with fail
    go_ret
    refine ⟨_, rfl, ?_, grown_of HB.out _, rfl⟩
    rw [HF.out, HLn.out]
    exact own_below HO.out HB.out
end Go.Proofs.Ytjejildgbmkbbaa

/-
  A LOGGER DROPPED: DropLogger of the program and of the model. By gen_dl3.py.
-/
namespace Go.Proofs.Ytjejildgbmkbbaa
open Go.RowKit Nm
set_option linter.unusedSimpArgs false
set_option linter.unusedVariables false

theorem flat_takeD {α : Type} {f : α → List Value} {d : Nat} (hf : ∀ x, (f x).length = d) (l : List α) (k : Nat) : (l.flatMap f).take (k * d) = (l.take k).flatMap f := by
  induction l generalizing k with
  | nil => simp
  | cons a l ih =>
    cases k with
    | zero => simp
    | succ k =>
      rw [List.flatMap_cons, List.take_succ_cons, List.flatMap_cons, show (k + 1) * d = (f a).length + k * d by rw [hf, Nat.succ_mul]; omega, List.take_length_add_append, ih]
theorem flat_dropD {α : Type} {f : α → List Value} {d : Nat} (hf : ∀ x, (f x).length = d) (l : List α) (k : Nat) : (l.flatMap f).drop (k * d) = (l.drop k).flatMap f := by
  induction l generalizing k with
  | nil => simp
  | cons a l ih =>
    cases k with
    | zero => simp
    | succ k =>
      rw [List.flatMap_cons, List.drop_succ_cons, show (k + 1) * d = (f a).length + k * d by rw [hf, Nat.succ_mul]; omega, List.drop_length_add_append, ih]
theorem flat_erase {α : Type} {f : α → List Value} {d : Nat} (hf : ∀ x, (f x).length = d) (l : List α) (k : Nat) : (l.flatMap f).take (k * d) ++ (l.flatMap f).drop ((k + 1) * d) = (l.eraseIdx k).flatMap f := by
  rw [flat_takeD hf, flat_dropD hf, List.eraseIdx_eq_take_drop_succ, List.flatMap_append]
theorem sub_flatM {α β : Type} {f : α → List β} {l l' : List α} (h : l'.Sublist l) : (l'.flatMap f).Sublist (l.flatMap f) := by
  induction h with
  | slnil => exact List.Sublist.refl _
  | cons a _ ih => rw [List.flatMap_cons]; exact ih.trans (List.sublist_append_right _ _)
  | cons_cons a _ ih => rw [List.flatMap_cons, List.flatMap_cons]; exact (List.Sublist.refl _).append ih
theorem lsOf_erase (ls : List LgrV) (k : Nat) : lsOf (ls.eraseIdx k) = (lsOf ls).eraseIdx k := by
  unfold lsOf
  rw [List.eraseIdx_eq_take_drop_succ, List.eraseIdx_eq_take_drop_succ, List.map_append, List.map_take, List.map_drop]
theorem hsOf_erase (hs : List HndV) (k : Nat) : hsOf (hs.eraseIdx k) = (hsOf hs).eraseIdx k := by
  unfold hsOf
  rw [List.eraseIdx_eq_take_drop_succ, List.eraseIdx_eq_take_drop_succ, List.map_append, List.map_take, List.map_drop]
theorem treeL_slices {W : World} {lo n1 n2 : Nat} {v1 v2 : Value} {ls : List LgrV} {hs : List HndV} (hr : Rows W lo (treeRows n1 v1 ls n2 v2 hs)) : (∀ u ∈ ls.flatMap lcells, u.oneCell' = true) ∧ (∀ u ∈ hs.flatMap hcells, u.oneCell' = true) := by
  obtain ⟨hl, hh⟩ := hr.lsIn
  refine ⟨lgrs_one ls fun x hx => ?_, hnds_one hs fun x hx => ?_⟩
  · obtain ⟨a, b⟩ := hl.2 x hx
    obtain ⟨A, c, e, _⟩ := a.form
    obtain ⟨A', c', e', _⟩ := b.form
    exact ⟨⟨A, _, c, e⟩, ⟨A', _, c', e'⟩⟩
  · obtain ⟨A, c, e, _⟩ := (hh.2 x hx).form
    exact ⟨A, _, c, e⟩
/-- a tree without a logger -/
theorem tree_del {W W' : World} {lo n m k : Nat} {v1 v1' v2 : Value} {ls : List LgrV} {hs : List HndV} (hn : n = ls.length) (hk : k < ls.length) (hm : m + 1 = n) (hr : Rows W lo (treeRows n v1 ls hs.length v2 hs))
    (ho : W'.ownsRow lo 48 6 v1' m ((ls.flatMap lcells).take (k * 6) ++ (ls.flatMap lcells).drop ((k + 1) * 6))) (hg : W.grownBy W' v1.ownBlock) (hv : v1'.ownBlock = v1.ownBlock) :
    Rows W' lo (treeRows (ls.eraseIdx k).length v1' (ls.eraseIdx k) hs.length v2 hs) ∧ ∀ b, (∀ r ∈ treeRows n v1 ls hs.length v2 hs, r.v.ownBlock ≠ some b) → ∀ r ∈ treeRows (ls.eraseIdx k).length v1' (ls.eraseIdx k) hs.length v2 hs, r.v.ownBlock ≠ some b := by
  subst hn
  rw [flat_erase lcells_len] at ho
  have h0 : Rows W lo ([] ++ ⟨48, 6, ls.length, v1, ls.flatMap lcells⟩ :: (ls.flatMap lrows ++ two 59 3 hs.length v2 hcells hrows hs)) := by
    rw [treeRows_eq] at hr
    simpa [two] using hr
  have h1 := Rows.app h0 hg ho (.inl hv)
  have hlen : (ls.eraseIdx k).length = m := by rw [List.length_eraseIdx, if_pos hk]; omega
  have ht : treeRows (ls.eraseIdx k).length v1' (ls.eraseIdx k) hs.length v2 hs = ⟨48, 6, m, v1', (ls.eraseIdx k).flatMap lcells⟩ :: ((ls.eraseIdx k).flatMap lrows ++ two 59 3 hs.length v2 hcells hrows hs) := by
    rw [treeRows_eq, two, hlen]; simp
  have hsub : ((ls.eraseIdx k).flatMap lrows).Sublist (ls.flatMap lrows) := sub_flatM (List.eraseIdx_sublist _ _)
  rw [ht]
  refine ⟨h1.sub (List.Sublist.cons_cons _ (hsub.append (List.Sublist.refl _))), fun b hb r hr' => ?_⟩
  rw [treeRows_eq] at hb
  rcases List.mem_cons.1 hr' with rfl | hr'
  · show v1'.ownBlock ≠ _
    rw [hv]
    exact hb ⟨48, 6, ls.length, v1, ls.flatMap lcells⟩ (by simp [two])
  · rcases List.mem_append.1 hr' with hr' | hr'
    · exact hb r (List.mem_append.2 (.inl (by simp only [two, List.mem_cons]; exact .inr (hsub.subset hr'))))
    · exact hb r (List.mem_append.2 (.inr hr'))

end Go.Proofs.Ytjejildgbmkbbaa

/-
  detach: a handler taken away from a logger of a tree of the call's own.
-/
namespace Go.Proofs.Ytjejildgbmkbbaa
open Go.RowKit Nm
set_option linter.unusedSimpArgs false
set_option linter.unusedVariables false

theorem two_apart {w : World} {lo n c g k : Nat} {ls : List LgrV} {post : List Row} {x : LgrV} (h : Rows w lo ([] ++ two 48 6 n (.slice (some ⟨g, 0, none⟩) n c) lcells lrows ls ++ post)) (hx : ls[k]? = some x) : some g ≠ x.hv.ownBlock := by
  have h2 := h.2
  rw [List.nil_append, two, List.cons_append] at h2
  have := (List.pairwise_cons.1 h2).1 ⟨9, 1, x.hn, x.hv, x.l.hs.map txt⟩ (List.mem_append.2 (.inl (List.mem_flatMap.2 ⟨x, List.mem_of_getElem? hx, by simp [lrows]⟩)))
  rcases this.1 with h0 | h0
  · cases h0
  · exact h0

set_option maxHeartbeats 8000000 in
set_option maxRecDepth 100000 in
theorem detach_c {W : World} {lo n c g k : Nat} {ls : List LgrV} {post : List Row} {x : LgrV} (s : ByteArray) (hR : Rows W lo ([] ++ two 48 6 n (.slice (some ⟨g, 0, none⟩) n c) lcells lrows ls ++ post)) (hx : ls[k]? = some x) (hn : x.l.hs.length ≤ 64) (hlo : lo ≤ W.heap.size) :
    Calls Try.prog 28 #[.pointer (some ⟨g, k * 6, none⟩), .string s] W (fun e w' => e = .returned (.tuple #[]) ∧ ∃ v', v'.ownBlock = x.hv.ownBlock ∧
      Rows w' lo ([] ++ two 48 6 n (.slice (some ⟨g, 0, none⟩) n c) lcells lrows (ls.set k ⟨woL s.data.toList x.l, v', (x.l.hs.filter (notS s.data.toList)).length, x.fv, x.fn⟩) ++ post) ∧ Below lo W w' ∧ ∀ b cs, b ≠ g → some b ≠ x.hv.ownBlock → Blk W b cs → Blk w' b cs) := by
  have hgx := two_apart hR hx
  have own6 : W.ownsRow lo 9 1 x.hv x.hn (x.l.hs.map txt) := hR.sub_ hx (r := ⟨9, 1, x.hn, x.hv, x.l.hs.map txt⟩) (by simp [lrows])
  have o2 := hR.cell_at (j := 2) lcells_len hx rfl
  have hgl : lo ≤ g := (hR.top.lt g rfl).1
  have hgw : g < W.heap.size := (hR.top.lt g rfl).2
  have hba : Below W.heap.size W (W.alloc (.cells #[.string s] 9)) := (Below.refl _ _).alloc (Nat.le_refl _) _
  have hxn : x.hn ≤ 64 := by have := own6.1; simp at this; omega
  have hne : x.hv.ownBlock ≠ some W.heap.size := fun e => by have := (own6.lt _ e).2; omega
  have CD := hid (deleteTxt_c (bx := W.heap.size) s (own_below own6 hba) hxn (Nat.le_trans hlo hba.size) (by simp) hne)
  obtain ⟨A6, c6, e6, _, _⟩ := (Sl.of_own own6).form
  have HX := hid hx
  have HG := hid (And.intro hgx hne)
  have HRa := hid (hR.below hba)
  have HBa := hid hba
  have HO2 := hid o2
  have HE6 := hid e6
  have m0 : W.cell? ⟨g, k * 6 + 2, none⟩ = some (.slice A6 x.hn c6) := by rw [← e6]; exact o2.1
  have hmf : ∀ (fn : Fn) (first cap : Array Value) (w : World), (Instr.makeFunc fn first cap).run Try.prog w = .ok (.func fn first cap) w := fun _ _ _ _ => rfl
  rw [e6] at CD
  clear hx hgx own6 o2 hba hne e6 hR
  go_enter Try.func28, Try.ntmps28
  go_wp2_with fail
  refine (CD.out).mono ?_
  rintro e w1 ⟨v', rfl, ho1, hg1, hv1⟩
  obtain ⟨A7, c7, rfl, _, _⟩ := (Sl.of_own ho1).form
  have hgb : some g ≠ (Value.slice A6 x.hn c6).ownBlock := by rw [← HE6.out]; exact HG.out.1
  have m1 : w1.cell? ⟨g, k * 6 + 2, none⟩ = some (.slice A6 x.hn c6) := (World.cell?_of_block (hg1.block g (Nat.lt_of_lt_of_le hgw HBa.out.size) hgb)).trans ((HBa.out.cell (p := ⟨g, k * 6 + 2, none⟩) hgw).trans m0)
  have f1 : w1.frozen? ⟨g, k * 6 + 2, none⟩ = false := (World.frozen?_of_block (hg1.block g (Nat.lt_of_lt_of_le hgw HBa.out.size) hgb)).trans ((HBa.out.frozen (p := ⟨g, k * 6 + 2, none⟩) hgw).trans HO2.out.2)
  have HR1 := hid (HRa.out.rowcell (w' := w1) (j := 0) (q := 2) (e := 2) (x := x) (y := ⟨woL s.data.toList x.l, .slice A7 (x.l.hs.filter (notS s.data.toList)).length c7, (x.l.hs.filter (notS s.data.toList)).length, x.fv, x.fn⟩)
    (r := ⟨9, 1, x.hn, x.hv, x.l.hs.map txt⟩) (r' := ⟨9, 1, (x.l.hs.filter (notS s.data.toList)).length, .slice A7 (x.l.hs.filter (notS s.data.toList)).length c7, (x.l.hs.filter (notS s.data.toList)).map txt⟩) (u := .slice A7 (x.l.hs.filter (notS s.data.toList)).length c7)
    lcells_len lrows_len HX.out (by omega) rfl (by show World.grownBy _ _ x.hv.ownBlock; rw [HE6.out]; exact hg1) ho1 (fun z hz => .inl (by show x.hv.ownBlock = some z; rw [HE6.out, ← hv1]; exact hz)) (by omega) rfl rfl)
  have HB1 := hid (show Below lo W w1 from (HBa.out.mono hlo).grown hg1 (Nat.le_trans hlo HBa.out.size) (fun z hz => by
    have h9 := HRa.out.sub_ HX.out (r := ⟨9, 1, x.hn, x.hv, x.l.hs.map txt⟩) (by simp [lrows])
    exact (h9.lt z (by show x.hv.ownBlock = some z; rw [HE6.out]; exact hz)).1))
  have HK1 := hid (fun (b : Nat) (cs : List Value) (h1 : b ≠ g) (h2 : some b ≠ x.hv.ownBlock) (hk : Blk W b cs) => (((hk.to HBa.out).kept hg1 (show some b ≠ _ by rw [← HE6.out]; exact h2)).apart ⟨g, k * 6 + 2, none⟩ (.slice A7 (x.l.hs.filter (notS s.data.toList)).length c7) (show g ≠ b from fun e => h1 e.symm)))
  have HV := hid hv1
  clear ho1 hg1 hv1 hgb m0
  go_wp2_with fail
  go_end0
  refine ⟨rfl, _, ?_, HR1.out, HB1.out.setCell hgl _, HK1.out⟩
  rw [HE6.out]; exact HV.out
end Go.Proofs.Ytjejildgbmkbbaa

/-
  A HANDLER NAMED ANEW: the program's change.
-/
namespace Go.Proofs.Ytjejildgbmkbbaa
open Go.RowKit Nm
set_option linter.unusedSimpArgs false
set_option linter.unusedVariables false

theorem nm_set {α : Type} {X : List α} {k : Nat} {l : α} (h : X[k]? = some l) : X.set k l = X := by
  refine List.ext_getElem? fun i => ?_
  by_cases hi : i = k
  · subst hi; rw [List.getElem?_set_self (List.getElem?_eq_some_iff.1 h).1, h]
  · rw [List.getElem?_set_ne (by omega)]
theorem idx_natN {ns : List Name} {x : Name} (h : ¬ idxL ns x < 0) : ∃ k : Nat, idxL ns x = (k : Int) ∧ k < ns.length ∧ ns[k]? = some x := by
  obtain ⟨k, hk⟩ : ∃ k : Nat, idxL ns x = (k : Int) := ⟨_, (Int.toNat_of_nonneg (by omega)).symm⟩
  exact ⟨k, hk, idx_nat hk⟩
theorem hset_of {hs : List HndV} {H : List Hnd} (h : hsOf hs = H) {k : Nat} {y : HndV} (hy : hs[k]? = some y) (t : Name) : hsOf (hs.set k { y with h := { y.h with nm := t } }) = setNm H k t := by
  subst h
  unfold hsOf setNm
  rw [List.map_set, List.getElem?_map, hy]; rfl
theorem renL_none {s t : Name} {l : Lgr} (h : s ∉ l.hs) : renL s t l = l := by unfold renL; rw [ren_none h]

end Go.Proofs.Ytjejildgbmkbbaa

/-
  A HANDLER DROPPED: the program's change.
-/
namespace Go.Proofs.Ytjejildgbmkbbaa
open Go.RowKit Nm
set_option linter.unusedSimpArgs false
set_option linter.unusedVariables false

theorem rows_delH {W W' : World} {lo n m k : Nat} {v v' : Value} {hs : List HndV} {pre : List Row} (hm : m + 1 = n) (hr : Rows W lo (pre ++ two 59 3 n v hcells hrows hs))
    (ho : W'.ownsRow lo 59 3 v' m ((hs.flatMap hcells).take (k * 3) ++ (hs.flatMap hcells).drop ((k + 1) * 3))) (hg : W.grownBy W' v.ownBlock) (hv : v'.ownBlock = v.ownBlock) : Rows W' lo (pre ++ two 59 3 m v' hcells hrows (hs.eraseIdx k)) := by
  rw [flat_erase hcells_len] at ho
  have h1 := Rows.app (T' := 59) (d' := 3) hr hg ho (.inl hv)
  refine h1.sub ((List.Sublist.refl _).append ?_)
  exact List.Sublist.cons_cons _ (sub_flatM (List.eraseIdx_sublist _ _))
theorem off_rows {ls : List LgrV} {hs : List HndV} {n m bc g : Nat} {c : Nat} {v2 : Value} (h0 : g ≠ bc) (h1 : ∀ x ∈ ls, x.hv.ownBlock ≠ some bc ∧ x.fv.ownBlock ≠ some bc) (h2 : v2.ownBlock ≠ some bc) (h3 : ∀ x ∈ hs, x.fv.ownBlock ≠ some bc) :
    ∀ r ∈ [] ++ two 48 6 n (.slice (some ⟨g, 0, none⟩) n c) lcells lrows ls ++ two 59 3 m v2 hcells hrows hs, r.v.ownBlock ≠ some bc := by
  intro r hr
  simp only [two, hrows, lrows, List.mem_append, List.mem_cons, List.mem_flatMap, List.not_mem_nil, or_false, false_or] at hr
  rcases hr with (rfl | ⟨y, hy, rfl | rfl⟩) | rfl | ⟨y, hy, rfl⟩
  · exact fun e => h0 (Option.some.inj e)
  · exact (h1 y hy).1
  · exact (h1 y hy).2
  · exact h2
  · exact h3 y hy

theorem lsOf_atD {cur : List LgrV} {L : List Lgr} {f : Lgr → Lgr} {k : Nat} {l : Lgr} (hc : lsOf cur = (L.take k).map f ++ L.drop k) (hk : L[k]? = some l) : ∃ x, cur[k]? = some x ∧ x.l = l := by
  have hl := mapk_at f (List.getElem?_eq_some_iff.1 hk).1
  rw [← hc, hk] at hl
  unfold lsOf at hl
  rw [List.getElem?_map] at hl
  cases hx : cur[k]? with
  | none => rw [hx] at hl; cases hl
  | some x => rw [hx] at hl; exact ⟨x, rfl, Option.some.inj hl⟩
end Go.Proofs.Ytjejildgbmkbbaa

/-
  A HANDLER DROPPED: DropHandler of the program and of the model; without. By gen_dl8.py.
-/
namespace Go.Proofs.Ytjejildgbmkbbaa
open Go.RowKit Nm
set_option linter.unusedSimpArgs false
set_option linter.unusedVariables false

end Go.Proofs.Ytjejildgbmkbbaa
