/-
  LOGGERS AND HANDLERS DROPPED, ATTACHED, DETACHED: plain.
-/
import Derived.Test.YtioegkcekbkblaaGreatPT1
namespace Go.Proofs.YtioegkcekbkblaaGreat
open Go.RowKit Nm
set_option linter.unusedSimpArgs false
set_option linter.unusedVariables false

theorem none_fit : dataFit (resL none) (resH none) := ⟨⟨by simp [resL], by simp [resL]⟩, ⟨by simp [resH], by simp [resH]⟩⟩
theorem sub_fit {L L' : List Lgr} {H H' : List Hnd} (h : dataFit L H) (hl : L'.Sublist L) (hh : H'.Sublist H) : dataFit L' H' :=
  ⟨⟨Nat.le_trans hl.length_le h.1.1, fun a ha => h.1.2 a (hl.subset ha)⟩, Nat.le_trans hh.length_le h.2.1, fun a ha => h.2.2 a (hh.subset ha)⟩
def dropX (L : List Lgr) (H : List Hnd) (q : Int) (s : Name) : Option TreeD := if idxL (namesOf L) s ≤ 0 then none else changedO L H q (some (L.eraseIdx (idxL (namesOf L) s).toNat, H, q))
theorem drop_res_fit (L : List Lgr) (H : List Hnd) (q : Int) (s : Name) : dataFit (resL (dropX L H q s)) (resH (dropX L H q s)) := by
  unfold dropX
  split
  · exact none_fit
  · exact changed_fit _ _ _ _
/-- fewer loggers, the root still the first -/
theorem sub_ok {L L' : List Lgr} {H : List Hnd} {q : Int} (h : treeOk L H q = true) (hs : L'.Sublist L) (h0 : L'[0]? = L[0]?) : treeOk L' H q = true := by
  unfold treeOk lgrsOk at h ⊢
  simp only [Bool.and_eq_true, decide_eq_true_eq, List.all_eq_true] at h ⊢
  obtain ⟨a, b, c, d, e, f, g⟩ := h
  refine ⟨a, b, fun l hl => c l (hs.subset hl), (hs.map _).nodup d, ?_, Nat.le_trans hs.length_le f, ?_⟩
  · rw [List.getElem?_map] at g
    cases hx : L[0]? with
    | none => rw [hx] at g; cases g
    | some x => rw [hx] at h0; have := (List.getElem?_eq_some_iff.1 h0).1; omega
  · rw [List.getElem?_map, h0, ← List.getElem?_map]; exact g
theorem drop_ok {L : List Lgr} {H : List Hnd} {q : Int} {k : Nat} (h : treeOk L H q = true) (hk : 0 < k) : treeOk (L.eraseIdx k) H q = true :=
  sub_ok h (List.eraseIdx_sublist _ _) (by rw [List.getElem?_eraseIdx, if_pos hk])
theorem drop_some {L : List Lgr} {H : List Hnd} {q : Int} {s : Name} {k : Nat} (h : treeOk L H q = true) (hk : idxL (namesOf L) s = (k : Int)) (h0 : 0 < k) : dropX L H q s = some (L.eraseIdx k, H, q) := by
  unfold dropX changedO
  rw [hk, if_neg (by omega), h]
  simp only [Int.toNat_natCast, if_true, Option.bind_some]
  unfold ifOk
  rw [drop_ok h h0]; rfl

/-- the same names, each logger still right -/
theorem treeOk_of {L L' : List Lgr} {H : List Hnd} {q : Int} (h : treeOk L H q = true) (hn : L'.map (·.nm) = L.map (·.nm)) (ha : ∀ l ∈ L', lgrOk H l = true) : treeOk L' H q = true := by
  have hl : L'.length = L.length := by have := congrArg List.length hn; simpa using this
  unfold treeOk lgrsOk at h ⊢
  rw [hn, hl]
  simp only [Bool.and_eq_true, decide_eq_true_eq, List.all_eq_true] at h ⊢
  exact ⟨h.1, h.2.1, ha, h.2.2.2⟩
theorem treeOk_lgr {L : List Lgr} {H : List Hnd} {q : Int} (h : treeOk L H q = true) : ∀ l ∈ L, lgrOk H l = true := by
  unfold treeOk lgrsOk at h
  simp only [Bool.and_eq_true, decide_eq_true_eq, List.all_eq_true] at h
  exact h.2.2.1

def notS (s x : Name) : Bool := !decide (x = s)
def woL (s : Name) (l : Lgr) : Lgr := { l with hs := l.hs.filter (notS s) }
def dropHX (L : List Lgr) (H : List Hnd) (q : Int) (s : Name) : Option TreeD :=
  changedO L H q (if idxL (hnm H) s < 0 then none else some (L.map (woL s), H.eraseIdx (idxL (hnm H) s).toNat, q))
theorem wo_lgrFit {l : Lgr} (s : Name) (h : lgrFit l) : lgrFit (woL s l) := by
  unfold lgrFit at h ⊢
  exact ⟨h.1, ⟨Nat.le_trans (List.length_filter_le _ _) h.2.1.1, fun x hx => h.2.1.2 x ((List.mem_filter.1 hx).1)⟩, h.2.2⟩
theorem dropH_fit {L : List Lgr} {H : List Hnd} (s : Name) (k : Nat) (h : dataFit L H) : dataFit (L.map (woL s)) (H.eraseIdx k) := by
  refine ⟨⟨by rw [List.length_map]; exact h.1.1, fun a ha => ?_⟩, Nat.le_trans (List.eraseIdx_sublist _ _).length_le h.2.1, fun a ha => h.2.2 a ((List.eraseIdx_sublist _ _).subset ha)⟩
  obtain ⟨l, hl, rfl⟩ := List.mem_map.1 ha
  exact wo_lgrFit s (h.1.2 l hl)
theorem wo_lgrOk {H : List Hnd} {l : Lgr} (s : Name) (h : lgrOk H l = true) : lgrOk H (woL s l) = true := by
  unfold lgrOk at h ⊢
  simp only [Bool.and_eq_true, decide_eq_true_eq, List.all_eq_true] at h ⊢
  exact ⟨h.1, h.2.1, h.2.2.1, fun x hx => h.2.2.2.1 x ((List.mem_filter.1 hx).1), h.2.2.2.2.filter _⟩
theorem dropH_ok {L : List Lgr} {H : List Hnd} {q : Int} {s : Name} {k : Nat} (h : treeOk L H q = true) (hk : (hnm H)[k]? = some s) : treeOk (L.map (woL s)) (H.eraseIdx k) q = true := by
  have hn : (L.map (woL s)).map (·.nm) = L.map (·.nm) := by rw [List.map_map]; rfl
  have h' := h
  unfold treeOk lgrsOk hndsOk at h ⊢
  rw [hn, List.length_map]
  simp only [Bool.and_eq_true, decide_eq_true_eq, List.all_eq_true] at h ⊢
  obtain ⟨a, ⟨b1, b2, b3⟩, c, d⟩ := h
  have hsub := List.eraseIdx_sublist H k
  refine ⟨a, ⟨fun x hx => b1 x (hsub.subset hx), (hsub.map _).nodup b2, Nat.le_trans hsub.length_le b3⟩, fun l hl => ?_, d⟩
  obtain ⟨y, hy, rfl⟩ := List.mem_map.1 hl
  have := c y hy
  unfold lgrOk at this ⊢
  simp only [Bool.and_eq_true, decide_eq_true_eq, List.all_eq_true] at this ⊢
  refine ⟨this.1, this.2.1, this.2.2.1, fun x hx => ?_, this.2.2.2.2.filter _⟩
  obtain ⟨hx1, hx2⟩ := List.mem_filter.1 hx
  have hne : x ≠ s := by unfold notS at hx2; simpa using hx2
  have h3 := this.2.2.2.1 x hx1
  unfold hasL at h3 ⊢
  rw [List.any_eq_true] at h3 ⊢
  obtain ⟨g, hg, e⟩ := h3
  refine ⟨g, ?_, e⟩
  have e' := of_decide_eq_true e
  rw [List.mem_eraseIdx_iff_getElem?]
  obtain ⟨i, hi⟩ := List.getElem?_of_mem hg
  refine ⟨i, fun hik => ?_, hi⟩
  subst hik
  unfold hnm at hk
  rw [List.getElem?_map, hi] at hk
  exact hne (e'.symm.trans (Option.some.inj hk))
theorem dropH_res_fit (L : List Lgr) (H : List Hnd) (q : Int) (s : Name) : dataFit (resL (dropHX L H q s)) (resH (dropHX L H q s)) := changed_fit _ _ _ _
theorem dropH_some {L : List Lgr} {H : List Hnd} {q : Int} {s : Name} {k : Nat} (h : treeOk L H q = true) (hk : idxL (hnm H) s = (k : Int)) : dropHX L H q s = some (L.map (woL s), H.eraseIdx k, q) := by
  have e : ¬ ((k : Int) < 0) := by omega
  unfold dropHX changedO
  simp only [hk, h, if_neg e, Int.toNat_natCast, if_true, Option.bind_some]
  unfold ifOk
  rw [dropH_ok h (idx_nat hk).2]; rfl

theorem upd_mem {L : List Lgr} {k : Nat} {f : Lgr → Lgr} {a : Lgr} (ha : a ∈ updL L k f) : a ∈ L ∨ ∃ l, L[k]? = some l ∧ a = f l := by
  unfold updL at ha
  cases e : L[k]? with
  | none => rw [e] at ha; exact .inl ha
  | some l =>
    rw [e] at ha
    rcases List.mem_or_eq_of_mem_set ha with ha | rfl
    · exact .inl ha
    · exact .inr ⟨l, rfl, rfl⟩
theorem upd_map' {β : Type} (g : Lgr → β) (L : List Lgr) (k : Nat) (f : Lgr → Lgr) (h : ∀ l, g (f l) = g l) : (updL L k f).map g = L.map g := by
  unfold updL
  cases e : L[k]? with
  | none => rfl
  | some l =>
    show (L.set k (f l)).map g = L.map g
    rw [List.map_set, h]
    refine List.ext_getElem? fun i => ?_
    by_cases hi : i = k
    · subst hi
      rw [List.getElem?_set_self (by rw [List.length_map]; exact (List.getElem?_eq_some_iff.1 e).1), List.getElem?_map, e]; rfl
    · rw [List.getElem?_set_ne (by omega)]
theorem updl_fit {L : List Lgr} {H : List Hnd} {k : Nat} {f : Lgr → Lgr} (h : dataFit L H) (hf : ∀ l, L[k]? = some l → lgrFit l → lgrFit (f l)) : dataFit (updL L k f) H := by
  refine ⟨⟨?_, fun a ha => ?_⟩, h.2⟩
  · unfold updL; split
    · rw [List.length_set]; exact h.1.1
    · exact h.1.1
  · rcases upd_mem ha with ha | ⟨l, hl, rfl⟩
    · exact h.1.2 a ha
    · exact hf l hl (h.1.2 l (List.mem_of_getElem? hl))
theorem wo_ok {L : List Lgr} {H : List Hnd} {q : Int} (k : Nat) (s : Name) (h : treeOk L H q = true) : treeOk (updL L k (woL s)) H q = true := by
  refine treeOk_of h (upd_map' (·.nm) L k (woL s) (fun _ => rfl)) fun a ha => ?_
  rcases upd_mem ha with ha | ⟨l, hl, rfl⟩
  · exact treeOk_lgr h a ha
  · exact wo_lgrOk s (treeOk_lgr h l (List.mem_of_getElem? hl))

def addHL (s : Name) (l : Lgr) : Lgr := if s ∈ l.hs then l else { l with hs := l.hs ++ [s] }
theorem addHL_nm (s : Name) (l : Lgr) : (addHL s l).nm = l.nm := by unfold addHL; split <;> rfl
theorem addH_ok {L : List Lgr} {H : List Hnd} {q : Int} {k : Nat} {l : Lgr} (s : Name) (h : treeOk L H q = true) (hl : L[k]? = some l) : treeOk (updL L k (addHL s)) H q = decide (s ∈ hnm H) := by
  have hm := treeOk_lgr h l (List.mem_of_getElem? hl)
  have hiff : ∀ x, hasL H x = true ↔ x ∈ hnm H := fun x => by
    unfold hasL hnm
    rw [List.any_eq_true, List.mem_map]
    exact ⟨fun ⟨y, a, b⟩ => ⟨y, a, of_decide_eq_true b⟩, fun ⟨y, a, b⟩ => ⟨y, a, decide_eq_true b⟩⟩
  by_cases hs : s ∈ hnm H
  · rw [decide_eq_true hs]
    refine treeOk_of h (upd_map' (·.nm) L k (addHL s) (addHL_nm s)) fun a ha => ?_
    rcases upd_mem ha with ha | ⟨l', hl', rfl⟩
    · exact treeOk_lgr h a ha
    · rw [hl] at hl'
      obtain rfl := Option.some.inj hl'
      unfold addHL
      split
      · exact hm
      · rename_i hn
        unfold lgrOk at hm ⊢
        simp only [Bool.and_eq_true, decide_eq_true_eq, List.all_eq_true] at hm ⊢
        refine ⟨hm.1, hm.2.1, hm.2.2.1, fun x hx => ?_, ?_⟩
        · rcases List.mem_append.1 hx with hx | hx
          · exact hm.2.2.2.1 x hx
          · rw [List.mem_singleton] at hx; subst hx; exact (hiff _).2 hs
        · exact List.nodup_append.2 ⟨hm.2.2.2.2, List.nodup_cons.2 ⟨by simp, List.nodup_nil⟩, fun a ha b hb e => by
            rw [List.mem_singleton] at hb; rw [e, hb] at ha; exact hn ha⟩
  · rw [decide_eq_false hs]
    have hn : s ∉ l.hs := fun hx => by
      unfold lgrOk at hm
      simp only [Bool.and_eq_true, decide_eq_true_eq, List.all_eq_true] at hm
      exact hs ((hiff _).1 (hm.2.2.2.1 s hx))
    cases hc : treeOk (updL L k (addHL s)) H q with
    | false => rfl
    | true =>
      exfalso
      have h2 := treeOk_lgr hc (addHL s l) (by
        unfold updL; rw [hl]
        exact List.mem_of_getElem? (List.getElem?_set_self (List.getElem?_eq_some_iff.1 hl).1))
      unfold addHL at h2
      rw [if_neg hn] at h2
      unfold lgrOk at h2
      simp only [Bool.and_eq_true, decide_eq_true_eq, List.all_eq_true] at h2
      exact hs ((hiff _).1 (h2.2.2.2.1 s (by simp)))

def keepL (l : Lgr) : Bool := !(!decide (l.nm = []) && (decide (l.lv = 0) && (decide (l.hs.length = 0) && (decide (l.fs.length = 0) && (!l.stop && !l.off)))))
def dropPX (L : List Lgr) (H : List Hnd) (q : Int) : Option TreeD := changedO L H q (some (L.filter keepL, H, q))
theorem dropP_res_fit (L : List Lgr) (H : List Hnd) (q : Int) : dataFit (resL (dropPX L H q)) (resH (dropPX L H q)) := changed_fit _ _ _ _
theorem dropP_ok {L : List Lgr} {H : List Hnd} {q : Int} (h : treeOk L H q = true) : treeOk (L.filter keepL) H q = true := by
  obtain ⟨_, _, _, h8, h1, h0⟩ := tree_names h
  refine sub_ok h List.filter_sublist ?_
  cases L with
  | nil => rfl
  | cons a L =>
    have ha : a.nm = [] := by
      unfold treeOk lgrsOk at h
      simp only [Bool.and_eq_true, decide_eq_true_eq] at h
      have := h.2.2.2.2.2.2
      simpa using this
    have hk : keepL a = true := by unfold keepL; rw [ha]; simp
    rw [List.filter_cons, if_pos hk]; rfl
theorem dropP_some {L : List Lgr} {H : List Hnd} {q : Int} (h : treeOk L H q = true) : dropPX L H q = some (L.filter keepL, H, q) := by
  unfold dropPX changedO
  rw [h]
  simp only [if_true, Option.bind_some]
  unfold ifOk
  rw [dropP_ok h]; rfl
end Go.Proofs.YtioegkcekbkblaaGreat
