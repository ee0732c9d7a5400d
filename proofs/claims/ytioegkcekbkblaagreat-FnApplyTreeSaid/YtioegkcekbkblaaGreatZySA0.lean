/-
  TREES APPLIED: plain: what is sent by the loggers of the new tree, and by the old ones.
-/
import Derived.Test.YtioegkcekbkblaaGreatZySD0
import Derived.Test.YtioegkcekbkblaaGreatZyAP1
namespace Go.Proofs.YtioegkcekbkblaaGreat
open Go.RowKit Go.Proofs.YtioegkcekbkblaaGreat.Nm
set_option linter.unusedSimpArgs false
set_option linter.unusedVariables false

theorem lgrOf_mem {L : List Lgr} {x : Name} {l : Lgr} (h : lgrOf L x = some l) : l ∈ L ∧ l.nm = x := by
  unfold lgrOf at h
  exact ⟨List.mem_of_find?_eq_some h, by have := List.find?_some h; simpa using this⟩
theorem upG_mem {L : List Lgr} : ∀ (n : Nat) (x : Name) (g : Lgr), g ∈ upG L n x → g ∈ L
  | 0, x, g, h => by
    unfold upG at h
    cases e : lgrOf L x with
    | none => rw [e] at h; cases h
    | some l =>
      rw [e] at h
      simp at h
      rw [h]; exact (lgrOf_mem e).1
  | n + 1, x, g, h => by
    unfold upG at h
    rcases List.mem_append.1 h with h | h
    · cases e : lgrOf L x with
      | none => rw [e] at h; cases h
      | some l =>
        rw [e] at h
        simp at h
        rw [h]; exact (lgrOf_mem e).1
    · split at h
      · cases h
      · exact upG_mem n _ g h
/-- a logger with nothing, that may be off -/
def bareL (l : Lgr) : Prop := l.lv = 0 ∧ l.hs = [] ∧ l.fs = [] ∧ l.stop = false
theorem first_part {p : Lgr → Bool} (gs : List Lgr) (h : ∀ g ∈ gs, p g = false → bareL g) : firstLv ((gs.filter p).map (·.lv)) = firstLv (gs.map (·.lv)) := by
  induction gs with
  | nil => rfl
  | cons g gs ih =>
    have ih' := ih (fun x hx => h x (List.mem_cons_of_mem _ hx))
    by_cases hk : p g = true
    · rw [List.filter_cons_of_pos hk, List.map_cons, List.map_cons, firstLv, firstLv, ih']
    · have h9 := h g List.mem_cons_self (by simpa using hk)
      rw [List.filter_cons_of_neg hk, ih', List.map_cons, firstLv, h9.1]
      simp
theorem spots_part {p : Lgr → Bool} (gs : List Lgr) (h : ∀ g ∈ gs, p g = false → bareL g) : spotsG (gs.filter p) = spotsG gs := by
  induction gs with
  | nil => rfl
  | cons g gs ih =>
    have ih' := ih (fun x hx => h x (List.mem_cons_of_mem _ hx))
    by_cases hk : p g = true
    · rw [List.filter_cons_of_pos hk]
      unfold spotsG
      rw [ih']
    · have h9 := h g List.mem_cons_self (by simpa using hk)
      rw [List.filter_cons_of_neg hk, ih']
      conv => rhs; unfold spotsG
      rw [h9.2.1, h9.2.2.2]
      rfl
section
variable {L N : List Lgr} {H : List Hnd} {q : Int}
def inL (L : List Lgr) (l : Lgr) : Bool := decide (l.nm ∈ nsOf L)
theorem in_part (h' : treeOk (L ++ N) H q = true) : (L ++ N).filter (inL L) = L ∧ ∀ l ∈ N, l.nm ∉ nsOf L := by
  have hnd := (tree_ns h').2.1
  unfold nsOf at hnd
  rw [List.map_append] at hnd
  have hd := (List.nodup_append.1 hnd).2.2
  have hN : ∀ l ∈ N, l.nm ∉ nsOf L := fun l hl hm => hd l.nm hm l.nm (List.mem_map.2 ⟨l, hl, rfl⟩) rfl
  refine ⟨?_, hN⟩
  have e1 : L.filter (inL L) = L := List.filter_eq_self.2 (fun l hl => decide_eq_true (show l.nm ∈ nsOf L from List.mem_map.2 ⟨l, hl, rfl⟩))
  have e2 : N.filter (inL L) = [] := List.filter_eq_nil_iff.2 (fun l hl => by unfold inL; simpa using hN l hl)
  rw [List.filter_append, e1, e2, List.append_nil]
/-- loggers with nothing behind all others change nothing of what is sent -/
theorem add_oc (h : treeOk L H q = true) (h' : treeOk (L ++ N) H q = true) (hb : ∀ l ∈ N, bareL l) (r : Rec) (hoff : ∀ l ∈ N, l.nm = r.nm → l.off = false) : ocX (L ++ N) H q r = ocX L H q r := by
  obtain ⟨hp, hN⟩ := in_part h'
  have hdrop : ∀ l ∈ L ++ N, inL L l = false → bareL l := fun l hl hz => by
    rcases List.mem_append.1 hl with hl | hl
    · exact absurd (show l.nm ∈ nsOf L from List.mem_map.2 ⟨l, hl, rfl⟩) (of_decide_eq_false hz)
    · exact hb l hl
  unfold ocX
  rw [h, h']
  cases hr : recOk r with
  | false => rfl
  | true =>
    have hx : nameOk r.nm = true := by obtain ⟨nm, lv, tx, sq⟩ := r; exact (recOk_rng hr).2.2
    obtain ⟨h0, hnd, _⟩ := tree_ns h
    obtain ⟨h0', hnd', _⟩ := tree_ns h'
    have hf := lgrOf_filter (inL L) hnd' r.nm
    rw [hp] at hf
    have hu := upG_filter (inL L) hnd' 4 r.nm
    rw [hp] at hu
    have hub : ∀ g ∈ upG (L ++ N) 4 r.nm, inL L g = false → bareL g := fun g hg hz => hdrop g (upG_mem _ _ g hg) hz
    have eo : offT (L ++ N) r.nm = offT L r.nm := by
      rw [off_up h0' hnd', off_up h0 hnd, hf]
      cases e : lgrOf (L ++ N) r.nm with
      | none => rfl
      | some l =>
        by_cases hk : inL L l = true
        · simp [Option.filter, hk]
        · have hm := lgrOf_mem e
          have hlN : l ∈ N := by
            rcases List.mem_append.1 hm.1 with hl | hl
            · exact absurd (decide_eq_true (show l.nm ∈ nsOf L from List.mem_map.2 ⟨l, hl, rfl⟩)) hk
            · exact hl
          simp [Option.filter, hk, hoff l hlN hm.2]
    have ef : ownF (L ++ N) r.nm = ownF L r.nm := by
      rw [own_up h0' hnd', own_up h0 hnd, hf]
      cases e : lgrOf (L ++ N) r.nm with
      | none => rfl
      | some l =>
        by_cases hk : inL L l = true
        · simp [Option.filter, hk]
        · have h9 := hdrop l (lgrOf_mem e).1 (by simpa using hk)
          simp [Option.filter, hk, h9.2.2.1]
    have el : levelN (nsOf (L ++ N)) (lvAt (L ++ N)) r.nm = levelN (nsOf L) (lvAt L) r.nm := by
      rw [levelG_up h' hx, levelG_up h hx, hu, first_part _ hub]
    have es : spX (L ++ N) r.nm = spX L r.nm := by
      unfold spX
      rw [spots_up h' hx, spots_up h hx, hu, spots_part _ hub]
    have ee : entX (L ++ N) q r.nm r.tx r.lv = entX L q r.nm r.tx r.lv := by
      unfold entX
      rw [eo, ef, el]
    rw [ee, es]
end
/-- a logger that is off sends nothing -/
theorem off_send {L : List Lgr} {H : List Hnd} {q : Int} (r : Rec) (h : treeOk L H q = true) {l : Lgr} (hl : l ∈ L) (hn : l.nm = r.nm) (ho : l.off = true) : sendX L H q r = [] := by
  obtain ⟨h0, hnd, _⟩ := tree_ns h
  obtain ⟨i, hi, he⟩ := List.getElem_of_mem hl
  have hg : lgrOf L r.nm = some l := by rw [← hn]; exact lgrOf_at hnd (by rw [List.getElem?_eq_getElem hi, he])
  have hoT : offT L r.nm = true := by rw [off_up h0 hnd, hg]; exact ho
  unfold sendX ocX
  split
  · have e1 : entX L q r.nm r.tx r.lv = (1, r.lv) := by unfold entX; rw [hoT]; rfl
    rw [e1]
    rfl
  · rfl
/-- the loggers of the old tree that go on -/
def restL (La L : List Lgr) : List Lgr := (La.filter (newIn L)).map (offL L)
theorem rest_bare {La L : List Lgr} : ∀ l ∈ restL La L, bareL l := by
  intro l hl
  obtain ⟨x, _, rfl⟩ := List.mem_map.1 hl
  exact ⟨rfl, rfl, rfl, rfl⟩
theorem appK_all (La L : List Lgr) : appK La L La.length = L ++ restL La L := by unfold appK restL; rw [List.take_length]
/-- both ways that an application goes -/
theorem app_cases (La : List Lgr) (Ha : List Hnd) (qa : Int) (L : List Lgr) (H : List Hnd) (q : Int) :
    appX La Ha qa L H q = none ∨ (treeOk L H q = true ∧ treeOk (L ++ restL La L) H q = true ∧ appX La Ha qa L H q = some (L ++ restL La L, H, q)) := by
  unfold appX
  rw [appK_all]
  split
  · unfold changedO ifOk
    split
    · rename_i h1
      simp only [Option.bind_some]
      split
      · rename_i h2
        exact .inr ⟨h1, h2, rfl⟩
      · exact .inl rfl
    · exact .inl rfl
  · exact .inl rfl
theorem app_self {L : List Lgr} {H : List Hnd} {q : Int} (h : treeOk L H q = true) : appX L H q L H q = some (L, H, q) := by
  have hr : restL L L = [] := by
    unfold restL
    rw [List.filter_eq_nil_iff.2 (fun l hl => ?_)]
    · rfl
    · unfold newIn
      have hm : l.nm ∈ namesOf L := List.mem_map.2 ⟨l, hl, rfl⟩
      simp only [decide_eq_true_eq, idxL, if_pos hm]
      omega
  unfold appX
  rw [appK_all, hr, List.append_nil, if_pos h]
  unfold changedO ifOk
  rw [if_pos h]
  simp only [Option.bind_some, if_pos h]
/-- what the loggers of an applied tree send -/
theorem app_sends {La L : List Lgr} {H : List Hnd} {q : Int} (h : treeOk L H q = true) (h' : treeOk (L ++ restL La L) H q = true) (k : Nat) (r : Rec) (hk : r.nm = (nsOf (L ++ restL La L)).getD k []) (hkl : k < (L ++ restL La L).length) :
    (k < L.length ∨ offAt (L ++ restL La L) k = false → sendX (L ++ restL La L) H q r = sendX L H q r) ∧ (offAt (L ++ restL La L) k = true → sendX (L ++ restL La L) H q r = []) := by
  obtain ⟨l, hl, hn⟩ := lgr_at hkl
  rw [hn] at hk
  have ho : offAt (L ++ restL La L) k = l.off := by unfold offAt; rw [List.getD_eq_getElem?_getD, List.getElem?_map, hl]; rfl
  have hnd := (tree_ns h').2.1
  refine ⟨fun hc => ?_, fun hc => off_send r h' (List.mem_of_getElem? hl) hk.symm (by rw [← ho]; exact hc)⟩
  unfold sendX
  rw [add_oc h h' rest_bare r (fun x hx hxn => ?_)]
  have hxl : x = l := by
    have h1 := lgrOf_at hnd hl
    obtain ⟨i, hi, he⟩ := List.getElem_of_mem (show x ∈ L ++ restL La L from List.mem_append_right _ hx)
    have h2 := lgrOf_at hnd (i := i) (l := x) (by rw [List.getElem?_eq_getElem hi, he])
    rw [hxn, hk, h1] at h2
    exact (Option.some.inj h2).symm
  rcases hc with hc | hc
  · exfalso
    have hlL : l ∈ L := List.mem_of_getElem? (by rw [List.getElem?_append_left hc] at hl; exact hl)
    exact (in_part h').2 x hx (by rw [hxl]; exact List.mem_map.2 ⟨l, hlL, rfl⟩)
  · rw [hxl, ← ho]; exact hc
end Go.Proofs.YtioegkcekbkblaaGreat
