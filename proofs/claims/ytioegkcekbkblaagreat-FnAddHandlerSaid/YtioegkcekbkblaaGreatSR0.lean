/-
  WHAT IS SENT, plain: its levels, its spots, its reasons; the parts of a list of records.
-/
import Derived.Test.YtioegkcekbkblaaGreatSNM
import Derived.Test.YtioegkcekbkblaaGreatSpotLaws
namespace Go.Proofs.YtioegkcekbkblaaGreat
open Go.RowKit Go.Proofs.YtioegkcekbkblaaGreat.Nm
set_option linter.unusedSimpArgs false
set_option linter.unusedVariables false

theorem passF_up {nm tx : List UInt8} {f : Flt} {lv q : Int} (h : passF nm tx f lv = some q) : lv ≤ q := by
  unfold passF at h
  split at h
  · split at h
    · cases h; exact Int.le_refl _
    · cases h
  · split at h
    · split at h
      · cases h; exact Int.le_refl _
      · cases h
    · split at h
      · split at h
        · cases h
        · cases h; exact Int.le_refl _
      · split at h
        · cases h; split <;> omega
        · cases h; exact Int.le_refl _
theorem filtL_up {nm tx : List UInt8} {fs : List Flt} {lv q : Int} (h : filtL nm tx fs lv = some q) : lv ≤ q := by
  induction fs generalizing lv with
  | nil => cases h; exact Int.le_refl _
  | cons f fs ih =>
    unfold filtL at h
    cases e : passF nm tx f lv with
    | none => rw [e] at h; cases h
    | some v => rw [e] at h; exact Int.le_trans (passF_up e) (ih h)
theorem askH_up {nm tx : List UInt8} (h : Hnd) (lv : Int) : lv ≤ (askH nm tx h lv).2 ∧ ((askH nm tx h lv).1 = 0 → h.lv ≤ (askH nm tx h lv).2) := by
  unfold askH
  split
  · exact ⟨Int.le_refl _, fun h => absurd (show (5 : Int) = 0 from h) (by decide)⟩
  · cases e : filtL nm tx h.fs lv with
    | none => exact ⟨Int.le_refl _, fun h => absurd (show (6 : Int) = 0 from h) (by decide)⟩
    | some q =>
      have := filtL_up e
      refine ⟨this, fun _ => ?_⟩
      show h.lv ≤ q
      omega
theorem outs_up {H : List Hnd} {nm tx : List UInt8} {ss : List Spt} {lv : Int} : ∀ o ∈ outs H nm tx ss lv, lv ≤ o.lv ∧ (o.kd = 0 → (hOf H o.hd).lv ≤ o.lv) := by
  induction ss generalizing lv with
  | nil => intro o ho; cases ho
  | cons s t ih =>
    intro o ho
    simp only [outs, List.mem_cons] at ho
    rcases ho with rfl | ho
    · exact askH_up _ _
    · obtain ⟨a, b⟩ := ih o ho
      exact ⟨Int.le_trans (askH_up _ _).1 a, b⟩
theorem ent_up (L : List Lgr) (q : Int) (nm tx : List UInt8) (lv : Int) : lv ≤ (entX L q nm tx lv).2 := by
  unfold entX
  split
  · exact Int.le_refl _
  split
  · exact Int.le_refl _
  split
  · exact Int.le_refl _
  cases e : filtL nm tx (ownF L nm) lv with
  | none => exact Int.le_refl _
  | some v => exact filtL_up e
theorem hOf_mem {H : List Hnd} (hn : (H.map (·.nm)).Nodup) {h : Hnd} (hm : h ∈ H) : hOf H h.nm = h := by
  unfold hOf
  have e : H.find? (fun y => decide (y.nm = h.nm)) = some h := by
    induction H with
    | nil => cases hm
    | cons a H ih =>
      rw [List.map_cons, List.nodup_cons] at hn
      rcases List.mem_cons.1 hm with rfl | hm
      · rw [List.find?_cons]; simp
      · have hne : a.nm ≠ h.nm := fun e => hn.1 (by rw [e]; exact List.mem_map.2 ⟨h, hm, rfl⟩)
        rw [List.find?_cons, decide_eq_false hne]
        exact ih hn.2 hm
  rw [e]; rfl
theorem tree_hnd {L : List Lgr} {H : List Hnd} {q : Int} (h : treeOk L H q = true) : (H.map (·.nm)).Nodup ∧ (∀ y ∈ H, y.nm ≠ lastL) ∧ H.length ≤ 6 ∧ ∀ y ∈ H, wordOk y.nm = true := by
  unfold treeOk hndsOk at h
  simp only [Bool.and_eq_true, List.all_eq_true, decide_eq_true_eq] at h
  refine ⟨h.2.1.2.1, fun y hy => ?_, h.2.1.2.2, fun y hy => ?_⟩
  · have := h.2.1.1 y hy
    unfold hndOk at this
    simp only [Bool.and_eq_true, Bool.not_eq_true', decide_eq_false_iff_not] at this
    exact this.2.1
  · have := h.2.1.1 y hy
    unfold hndOk at this
    simp only [Bool.and_eq_true] at this
    exact this.1
/-- what is sent is the record, its level raised, and no handler gets less than its level -/
theorem sendX_facts {L : List Lgr} {H : List Hnd} {q : Int} {r : Rec} : ∀ s ∈ sendX L H q r, s.rc.nm = r.nm ∧ s.rc.tx = r.tx ∧ s.rc.sq = r.sq ∧ r.lv ≤ s.rc.lv ∧ ∀ h ∈ H, h.nm = s.hd → h.lv ≤ s.rc.lv := by
  intro s hs
  unfold sendX sentOf at hs
  obtain ⟨o, ho, rfl⟩ := List.mem_map.1 hs
  obtain ⟨ho, hk⟩ := List.mem_filter.1 ho
  have hk0 : o.kd = 0 := by simpa using hk
  unfold ocX at ho
  split at ho
  · rename_i hok
    rw [Bool.and_eq_true] at hok
    split at ho
    · obtain ⟨a, b⟩ := outs_up o ho
      refine ⟨rfl, rfl, rfl, Int.le_trans (ent_up L q r.nm r.tx r.lv) a, fun h hm he => ?_⟩
      have h9 := b hk0
      rw [← show h.nm = o.hd from he, hOf_mem (tree_hnd hok.1).1 hm] at h9
      exact h9
    · rename_i hne
      rw [List.mem_singleton] at ho
      subst ho
      exact absurd hk0 hne
  · cases ho
def prS (s : Snt) : Spt := ⟨s.lg, s.hd⟩
theorem outs_pairs (H : List Hnd) (nm tx : List UInt8) (ss : List Spt) (lv : Int) : (outs H nm tx ss lv).map (fun o => (⟨o.lg, o.hd⟩ : Spt)) = ss := by
  induction ss generalizing lv with
  | nil => rfl
  | cons s t ih =>
    show (⟨s.lg, s.hd⟩ : Spt) :: (outs H nm tx t _).map (fun o => (⟨o.lg, o.hd⟩ : Spt)) = s :: t
    rw [ih]
theorem send_pairs (L : List Lgr) (H : List Hnd) (q : Int) (r : Rec) : ((sendX L H q r).map prS).Sublist (spX L r.nm) := by
  unfold sendX ocX
  split
  · split
    · unfold sentOf
      rw [List.map_map]
      have h9 := (List.filter_sublist (p := fun o : Oc => o.kd == 0) (l := outs H r.nm r.tx (spX L r.nm) (entX L q r.nm r.tx r.lv).2)).map (fun o => (⟨o.lg, o.hd⟩ : Spt))
      rw [outs_pairs] at h9
      exact h9
    · rename_i hne
      rw [sentOf_bad _ _ _ hne]
      exact List.nil_sublist _
  · exact List.nil_sublist _
theorem rec_name {r : Rec} (h : recOk r = true) : nameOk r.nm = true ∧ 1 ≤ r.lv ∧ r.lv ≤ 60 := by
  unfold recOk at h
  simp only [Bool.and_eq_true, decide_eq_true_eq] at h
  exact ⟨h.1, h.2.1, h.2.2.1⟩
theorem send_dis {L : List Lgr} {H : List Hnd} {q : Int} {r : Rec} (ht : treeOk L H q = true) (hr : recOk r = true) (h : isEnabledT L H q r.nm r.lv = false) : sendX L H q r = [] := by
  obtain ⟨a, b, c⟩ := rec_name hr
  have e : enabledT L q r.nm r.lv = false := by
    unfold isEnabledT at h
    rw [ht, a, decide_eq_true b, decide_eq_true c] at h
    simpa using h
  exact sendX_bad (ent_dis e)
theorem spX_of {L : List Lgr} {H : List Hnd} {q : Int} {x : List UInt8} (ht : treeOk L H q = true) (hx : nameOk x = true) : (spotsT L H q x = [] ∧ spX L x = [⟨[], lastL⟩]) ∨ (spotsT L H q x ≠ [] ∧ spX L x = spotsT L H q x) := by
  rw [spots_ok ht hx]
  unfold spX
  by_cases h : spotsI L (pathN (nsOf L) x) = []
  · rw [if_pos h]; exact .inl ⟨h, rfl⟩
  · rw [if_neg h]; exact .inr ⟨h, rfl⟩
/-- where there are no spots, the last handler gets what it asks for -/
theorem send_none {L : List Lgr} {H : List Hnd} {q : Int} {r : Rec} (ht : treeOk L H q = true) (hr : recOk r = true) (h : spotsT L H q r.nm = []) : sendX L H q r = [] ∨ ∃ g : Int, 30 ≤ g ∧ sendX L H q r = [⟨[], lastL, ⟨r.nm, g, r.tx, r.sq⟩⟩] := by
  by_cases he : (entX L q r.nm r.tx r.lv).1 = 0
  · obtain ⟨g, hg⟩ : ∃ g, entX L q r.nm r.tx r.lv = (0, g) := ⟨(entX L q r.nm r.tx r.lv).2, Prod.ext he rfl⟩
    rw [sendX_ok ht hr hg]
    rcases spX_of ht (rec_name hr).1 with ⟨_, e⟩ | ⟨h1, _⟩
    · rw [e, sent_last (tree_hnd ht).2.1]
      split
      · rename_i h3; exact .inr ⟨g, h3, rfl⟩
      · exact .inl rfl
    · exact absurd h h1
  · exact .inl (sendX_bad he)
/-- how many of the first k are sent -/
def atK (X : List Oc) (k : Nat) : Nat := ((X.take k).filter fun o => o.kd == 0).length
theorem atK_zero (X : List Oc) : atK X 0 = 0 := rfl
theorem atK_step {X : List Oc} {k : Nat} {o : Oc} (h : X[k]? = some o) : atK X (k + 1) = atK X k + if o.kd = 0 then 1 else 0 := by
  unfold atK
  rw [List.take_add_one, h, List.filter_append, List.length_append]
  congr 1
  show (List.filter (fun o : Oc => o.kd == 0) [o]).length = _
  by_cases hk : o.kd = 0
  · simp [hk]
  · simp [hk]
theorem atK_le (X : List Oc) (k : Nat) : atK X k ≤ k := by
  unfold atK
  refine Nat.le_trans (List.length_filter_le _ _) ?_
  rw [List.length_take]; omega
theorem atK_end {nm tx : List UInt8} {sq : Int} {X : List Oc} {k : Nat} (h : X.length ≤ k) : atK X k = (sentOf nm tx sq X).length := by
  unfold atK sentOf
  rw [List.take_of_length_le h, List.length_map]
theorem sent_at {nm tx : List UInt8} {sq : Int} {X : List Oc} {k : Nat} {o : Oc} (h : X[k]? = some o) (hk : o.kd = 0) : (sentOf nm tx sq X)[atK X k]? = some (sent1 nm tx sq o) := by
  have hlt := (List.getElem?_eq_some_iff.1 h).1
  have he := (List.getElem?_eq_some_iff.1 h).2
  have e : X = X.take k ++ o :: X.drop (k + 1) := by
    conv => lhs; rw [← List.take_append_drop k X]
    rw [List.drop_eq_getElem_cons hlt, he]
  unfold sentOf
  rw [List.getElem?_map]
  have e2 : (X.filter fun o => o.kd == 0) = ((X.take k).filter fun o => o.kd == 0) ++ o :: ((X.drop (k + 1)).filter fun o => o.kd == 0) := by
    conv => lhs; rw [e]
    rw [List.filter_append, List.filter_cons, if_pos (by simpa using hk)]
  rw [e2]
  unfold atK
  rw [List.getElem?_append_right (Nat.le_refl _), Nat.sub_self]
  rfl
theorem oc_len {L : List Lgr} {H : List Hnd} {q : Int} {r : Rec} (ht : treeOk L H q = true) (hr : recOk r = true) : (ocX L H q r).length = 1 ∨ (ocX L H q r).length = (spotsT L H q r.nm).length := by
  unfold ocX
  rw [ht, hr]
  simp only [Bool.and_self, if_true]
  split
  · rw [outs_len]
    rcases spX_of ht (rec_name hr).1 with ⟨_, e⟩ | ⟨_, e⟩
    · left; rw [e]; rfl
    · right; rw [e]
  · left; rfl
theorem run_cut {L : List Lgr} {H : List Hnd} {q : Int} {rs : List Rec} (hr : recsOk rs = true) (k : Nat) : runX L H q (rs.take k) ++ runX L H q (rs.drop k) = runX L H q rs := by
  have h1 : recsOk (rs.take k) = true := by
    unfold recsOk at hr ⊢
    simp only [Bool.and_eq_true, List.all_eq_true, decide_eq_true_eq] at hr ⊢
    exact ⟨fun x hx => hr.1 x (List.mem_of_mem_take hx), by rw [List.length_take]; omega⟩
  have h2 : recsOk (rs.drop k) = true := by
    unfold recsOk at hr ⊢
    simp only [Bool.and_eq_true, List.all_eq_true, decide_eq_true_eq] at hr ⊢
    exact ⟨fun x hx => hr.1 x (List.mem_of_mem_drop hx), by rw [List.length_drop]; omega⟩
  unfold runX
  rw [if_pos h1, if_pos h2, if_pos hr, ← List.flatMap_append, List.take_append_drop]
/-- a new logger changes nothing of what is sent by its own records -/
theorem ent_add {L : List Lgr} {H : List Hnd} {q p : Int} {s tx : List UInt8} {lv : Int} (h : treeOk L H p = true) (h' : treeOk (addT L s) H p = true) (hs : nameOk s = true) : entX (addT L s) q s tx lv = entX L q s tx lv := by
  have hlv := (add_same h h' hs).2
  unfold levelT at hlv
  rw [h, h', hs] at hlv
  simp only [Bool.and_self, if_true] at hlv
  by_cases hneg : idxL (namesOf L) s < 0
  · obtain ⟨h0, hnd, hok⟩ := tree_nm h
    obtain ⟨h0', hnd', _⟩ := tree_nm h'
    have e : addT L s = L ++ [mkL s] := by unfold addT; rw [if_pos hneg]
    have hn : s ∉ nsOf L := (idx_neg (namesOf L) s).1 hneg
    have hlen : (nsOf L).length = L.length := by unfold nsOf; rw [List.length_map]
    rw [e] at hlv h0' hnd' ⊢
    rw [nsOf_snoc] at h0' hnd'
    have hk : nearN (nsOf L ++ [s]) s = L.length := near_hit h0' hnd' s L.length (by rw [← hlen]; simp)
    have hZ : ∀ {α : Type} (f : Lgr → α) (d : α), ((L ++ [mkL s]).map f).getD L.length d = f (mkL s) := fun f d => by
      rw [List.map_append]
      have := getD_last (L.map f) (f (mkL s)) d
      rwa [List.length_map] at this
    have o1 : offT (L ++ [mkL s]) s = false := by unfold offT offAt; rw [nsOf_snoc, hk, hZ (·.off) false]; simp [mkL]
    have o2 : offT L s = false := by unfold offT; rw [decide_eq_false hn]; rfl
    have f1 : ownF (L ++ [mkL s]) s = [] := by
      unfold ownF fsAt
      rw [nsOf_snoc, hk]
      split
      · exact hZ (·.fs) []
      · rfl
    have f2 : ownF L s = [] := by unfold ownF; rw [if_neg hn]
    unfold entX
    rw [o1, o2, f1, f2, hlv]
  · have e : addT L s = L := by unfold addT; rw [if_neg hneg]
    rw [e]
theorem spX_add {L : List Lgr} {H : List Hnd} {p : Int} {s : List UInt8} (h : treeOk L H p = true) (h' : treeOk (addT L s) H p = true) (hs : nameOk s = true) : spX (addT L s) s = spX L s := by
  have h1 := (add_same h h' hs).1
  rcases spX_of h hs with ⟨a, b⟩ | ⟨a, b⟩
  · rcases spX_of h' hs with ⟨c, d⟩ | ⟨c, d⟩
    · rw [b, d]
    · rw [h1] at c; exact absurd a c
  · rcases spX_of h' hs with ⟨c, d⟩ | ⟨c, d⟩
    · rw [h1] at c; exact absurd c a
    · rw [b, d, h1]
theorem send_add {L : List Lgr} {H : List Hnd} {q : Int} {r : Rec} (h : treeOk L H q = true) (h' : treeOk (addT L r.nm) H q = true) (hr : recOk r = true) : sendX (addT L r.nm) H q r = sendX L H q r := by
  have hs := (rec_name hr).1
  unfold sendX ocX
  rw [h, h', hr, ent_add h h' hs, spX_add h h' hs]
end Go.Proofs.YtioegkcekbkblaaGreat
