/-
  A HANDLER ADDED, plain: nothing of what is sent changes, it has no users, and it can be dropped again.
-/
import Derived.Test.YtioegkcekbkblaaGreatSR0
import Derived.Test.YtioegkcekbkblaaGreatDL1
import Derived.Test.YtioegkcekbkblaaGreatDL5
import Derived.Test.YtioegkcekbkblaaGreatAH4
namespace Go.Proofs.YtioegkcekbkblaaGreat
open Go.RowKit Go.Proofs.YtioegkcekbkblaaGreat.Nm
set_option linter.unusedSimpArgs false
set_option linter.unusedVariables false

theorem hOf_snoc {H : List Hnd} {h : Hnd} {x : List UInt8} (hx : ∃ y ∈ H, y.nm = x) : hOf (H ++ [h]) x = hOf H x := by
  unfold hOf
  rw [List.find?_append]
  obtain ⟨y, hy, e⟩ := hx
  cases e2 : H.find? (fun y => decide (y.nm = x)) with
  | none => exact absurd (List.find?_eq_none.1 e2 y hy) (by simp [e])
  | some z => rfl
theorem hOf_last {H : List Hnd} (h : ∀ y ∈ H, y.nm ≠ lastL) : hOf H lastL = lastH := by
  unfold hOf
  rw [List.find?_eq_none.2 (fun y hy => by simpa using h y hy)]
  rfl
theorem outs_congr {H H' : List Hnd} {nm tx : List UInt8} {ss : List Spt} (h : ∀ s ∈ ss, hOf H' s.hd = hOf H s.hd) (lv : Int) : outs H' nm tx ss lv = outs H nm tx ss lv := by
  induction ss generalizing lv with
  | nil => rfl
  | cons s t ih =>
    have e := h s (by simp)
    show _ :: outs H' nm tx t _ = _ :: outs H nm tx t _
    rw [e, ih (fun s' hs' => h s' (by simp [hs']))]
theorem lgr_hs {L : List Lgr} {H : List Hnd} {q : Int} (h : treeOk L H q = true) {l : Lgr} (hl : l ∈ L) : ∀ x ∈ l.hs, ∃ y ∈ H, y.nm = x := by
  intro x hx
  have h1 := treeOk_lgr h l hl
  unfold lgrOk at h1
  simp only [Bool.and_eq_true, decide_eq_true_eq, List.all_eq_true] at h1
  have h3 := h1.2.2.2.1 x hx
  unfold hasL at h3
  obtain ⟨y, hy, e⟩ := List.any_eq_true.1 h3
  exact ⟨y, hy, of_decide_eq_true e⟩
theorem spX_hd {L : List Lgr} {H : List Hnd} {q : Int} (h : treeOk L H q = true) (x : List UInt8) : ∀ s ∈ spX L x, s.hd = lastL ∨ ∃ y ∈ H, y.nm = s.hd := by
  intro s hs
  unfold spX at hs
  split at hs
  · rw [List.mem_singleton] at hs; subst hs; exact .inl rfl
  · obtain ⟨i, hi⟩ := spotsI_mem hs
    obtain ⟨l, hl, hm⟩ := hs_mem hi
    exact .inr (lgr_hs h hl _ hm)
theorem send_addH {L : List Lgr} {H : List Hnd} {q : Int} {hd : Hnd} (h : treeOk L H q = true) (h' : treeOk L (H ++ [hd]) q = true) (r : Rec) : sendX L (H ++ [hd]) q r = sendX L H q r := by
  unfold sendX ocX
  rw [h, h']
  have e : ∀ g, outs (H ++ [hd]) r.nm r.tx (spX L r.nm) g = outs H r.nm r.tx (spX L r.nm) g := fun g => outs_congr (fun s hs => by
    rcases spX_hd h r.nm s hs with e | e
    · rw [e, hOf_last (tree_hnd h).2.1, hOf_last (tree_hnd h').2.1]
    · exact hOf_snoc e) g
  simp only [e]
theorem name_new {L : List Lgr} {H : List Hnd} {q : Int} {hd : Hnd} (h' : treeOk L (H ++ [hd]) q = true) : ∀ y ∈ H, y.nm ≠ hd.nm := by
  have := (tree_hnd h').1
  rw [List.map_append, List.nodup_append] at this
  exact fun y hy e => this.2.2 _ (List.mem_map.2 ⟨y, hy, rfl⟩) hd.nm (by simp) e
theorem users_addH {L : List Lgr} {H : List Hnd} {q : Int} {hd : Hnd} (h : treeOk L H q = true) (h' : treeOk L (H ++ [hd]) q = true) : usersT L (H ++ [hd]) q hd.nm = [] := by
  unfold usersT
  rw [h', if_pos rfl, usersN_eq, List.map_eq_nil_iff, List.filter_eq_nil_iff]
  intro l hl hm
  obtain ⟨y, hy, e⟩ := lgr_hs h hl _ (of_decide_eq_true hm)
  exact name_new h' y hy e
theorem drop_addH {L : List Lgr} {H : List Hnd} {q : Int} {hd : Hnd} (h : treeOk L H q = true) (h' : treeOk L (H ++ [hd]) q = true) : dropHX L (H ++ [hd]) q hd.nm = some (L, H, q) := by
  have hk : idxL (hnm (H ++ [hd])) hd.nm = ((H.length : Nat) : Int) := by
    refine idx_hit _ _ _ (by unfold hnm; simp) (fun hm => ?_)
    unfold hnm at hm
    rw [List.map_append, List.take_append_of_le_length (by simp), List.take_of_length_le (by simp)] at hm
    obtain ⟨y, hy, e⟩ := List.mem_map.1 hm
    exact name_new h' y hy e
  rw [dropH_some h' hk]
  have e1 : L.map (woL hd.nm) = L := by
    rw [List.map_congr_left (g := id) (fun l hl => ?_), List.map_id]
    show woL hd.nm l = l
    unfold woL
    have : l.hs.filter (notS hd.nm) = l.hs := List.filter_eq_self.2 (fun x hx => by
      obtain ⟨y, hy, e⟩ := lgr_hs h hl x hx
      unfold notS
      rw [decide_eq_false (fun e2 => name_new h' y hy (e.trans e2))]; rfl)
    rw [this]
  have e2 : (H ++ [hd]).eraseIdx H.length = H := by
    rw [List.eraseIdx_append_of_length_le (Nat.le_refl _)]; simp
  rw [e1, e2]
theorem addHd_cases (L : List Lgr) (H : List Hnd) (q : Int) (x : Hnd) : addHdX L H q x = none ∨ (treeOk L H q = true ∧ treeOk L (H ++ [x]) q = true ∧ addHdX L H q x = some (L, H ++ [x], q)) := by
  unfold addHdX changedO ifOk
  cases h1 : treeOk L H q with
  | false => exact .inl (by simp)
  | true =>
    cases h2 : treeOk L (H ++ [x]) q with
    | false => exact .inl (by simp [h2])
    | true => exact .inr ⟨rfl, rfl, by simp [h2]⟩
end Go.Proofs.YtioegkcekbkblaaGreat
