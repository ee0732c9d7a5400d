/-
  RECORDS SENT: the program's outcomesOf. By gen_sn3.py.
-/
import Derived.Test.YtihigemelekflaaSN2
namespace Go.Proofs.Ytihigemelekflaa
open Go.RowKit Go.Proofs.Ytihigemelekflaa.Nm
set_option linter.unusedSimpArgs false
set_option linter.unusedVariables false

theorem MapP.same {w w' : World} {b n : Nat} {g : List UInt8 → Option Value} (h : MapP w b n g) (e : w'.heap[b]? = w.heap[b]?) : MapP w' b n g := by
  obtain ⟨D, h1, ⟨es, clock, h2, h4⟩, h3⟩ := h
  exact ⟨D, h1, ⟨es, clock, e.trans h2, h4⟩, h3⟩
theorem lt_of_some {w : World} {b : Nat} {x : Obj} (h : w.heap[b]? = some x) : b < w.heap.size := (Array.getElem?_eq_some_iff.1 h).1
theorem Blk.same {w w' : World} {b : Nat} {cs : List Value} (h : Blk w b cs) (e : w'.heap[b]? = w.heap[b]?) : Blk w' b cs := by
  have hl : b < w'.heap.size := by
    obtain ⟨x, hx⟩ : ∃ x, w.heap[b]? = some x := ⟨_, Array.getElem?_eq_getElem h.1⟩
    exact lt_of_some (e.trans hx)
  refine ⟨hl, fun j u hu => ⟨(World.cell?_of_block (a := ⟨b, j, none⟩) e).trans (h.2 j u hu).1, (World.frozen?_of_block (a := ⟨b, j, none⟩) e).trans (h.2 j u hu).2⟩⟩
/-- memory below lo is as it was, but for one block -/
def Kept (w w' : World) (lo bk : Nat) : Prop := ∀ b, b < lo → b ≠ bk → w'.heap[b]? = w.heap[b]?
theorem Kept.refl (w : World) (lo bk : Nat) : Kept w w lo bk := fun _ _ _ => rfl
theorem Kept.below {w w' w2 : World} {lo bk : Nat} (h : Kept w w' lo bk) (hb : Below lo w' w2) : Kept w w2 lo bk := fun b h1 h2 => (hb.block b h1).trans (h b h1 h2)
theorem Kept.grown {w w' w2 : World} {lo bk : Nat} (h : Kept w w' lo bk) (hg : w'.grownBy w2 (some bk)) (hl : lo ≤ w'.heap.size) : Kept w w2 lo bk := fun b h1 h2 => (hg.block b (by omega) (by simpa using h2)).trans (h b h1 h2)

theorem find_at {H : List Hnd} (hn : (H.map (·.nm)).Nodup) {j : Nat} {h : Hnd} (hj : H[j]? = some h) : H.find? (fun x => decide (x.nm = h.nm)) = some h := by
  induction H generalizing j with
  | nil => simp at hj
  | cons a t ih =>
    rw [List.map_cons, List.nodup_cons] at hn
    cases j with
    | zero =>
      simp only [List.getElem?_cons_zero, Option.some.injEq] at hj
      subst hj
      simp
    | succ j =>
      simp only [List.getElem?_cons_succ] at hj
      have hne : a.nm ≠ h.nm := fun e => hn.1 (by rw [e]; exact List.mem_map.2 ⟨h, List.mem_of_getElem? hj, rfl⟩)
      rw [List.find?_cons, decide_eq_false hne]
      exact ih hn.2 hj
theorem hOf_at {H : List Hnd} (hn : (H.map (·.nm)).Nodup) {j : Nat} {h : Hnd} (hj : H[j]? = some h) : hOf H h.nm = h := by
  unfold hOf; rw [find_at hn hj]; rfl
theorem hOf_miss {H : List Hnd} {x : List UInt8} (h : ∀ y ∈ H, y.nm ≠ x) : hOf H x = lastH := by
  unfold hOf
  rw [List.find?_eq_none.2 (fun y hy => by simpa using h y hy)]; rfl
/-- the spots of a valid tree are handlers of it -/
theorem spots_has {L : List Lgr} {H : List Hnd} {q : Int} (ht : treeOk L H q = true) (pl : List Nat) : ∀ s ∈ spotsI L pl, hasL H s.hd = true := by
  induction pl with
  | nil => intro s hs; cases hs
  | cons i r ih =>
    intro s hs
    unfold spotsI at hs
    rcases List.mem_append.1 hs with h | h
    · unfold ownS at h
      obtain ⟨x, hx, rfl⟩ := List.mem_map.1 h
      unfold hsAt at hx
      by_cases hi : i < L.length
      · have e : (L.map (·.hs)).getD i [] = L[i].hs := by simp [List.getD, hi]
        rw [e] at hx
        unfold treeOk lgrsOk at ht
        simp only [Bool.and_eq_true, List.all_eq_true] at ht
        have := ht.2.2.1 _ (List.getElem_mem hi)
        unfold lgrOk at this
        simp only [Bool.and_eq_true, List.all_eq_true] at this
        exact this.2.2.2.1 x hx
      · simp [List.getD, hi] at hx
    · split at h
      · cases h
      · exact ih s h
theorem spX_has {L : List Lgr} {H : List Hnd} {q : Int} (ht : treeOk L H q = true) (x : List UInt8) : ∀ s ∈ spX L x, hasL H s.hd = true ∨ s.hd = lastL := by
  intro s hs
  unfold spX at hs
  split at hs
  · rw [List.mem_singleton] at hs; subst hs; exact .inr rfl
  · exact .inl (spots_has ht _ s hs)
theorem own_kept {w w' : World} {base n sz b : Nat} {e : TypeId} {v : Value} {xs : List Value} (h : w.ownsRow base e sz v n xs) (hg : w.grownBy w' (some b)) (hb : b < base) : w'.ownsRow base e sz v n xs :=
  h.kept hg (by
    cases hq : v.ownBlock with
    | none => exact .inl rfl
    | some g => right; intro e; cases e; have := (h.lt _ hq).1; omega)
theorem word_short {l : List UInt8} (h : wordOk l = true) : l.length ≤ 4 := by unfold wordOk at h; simp only [Bool.and_eq_true, decide_eq_true_eq] at h; exact h.2.2
theorem spX_fit {L : List Lgr} {H : List Hnd} {q : Int} (ht : treeOk L H q = true) (x : List UInt8) : ∀ s ∈ spX L x, s.hd.length ≤ 1048576 := by
  intro s hs
  rcases spX_has ht x s hs with h | h
  · unfold hasL at h
    obtain ⟨y, hy, e⟩ := List.any_eq_true.1 h
    unfold treeOk hndsOk at ht
    simp only [Bool.and_eq_true, List.all_eq_true] at ht
    have := ht.2.1.1 y hy
    unfold hndOk at this
    simp only [Bool.and_eq_true] at this
    have h4 := word_short this.1
    have e2 : y.nm = s.hd := by simpa using e
    rw [← e2]; omega
  · rw [h]; decide
theorem tree_hnds {L : List Lgr} {H : List Hnd} {q : Int} (ht : treeOk L H q = true) : (H.map (·.nm)).Nodup ∧ (∀ y ∈ H, y.nm ≠ lastL) ∧ H.length ≤ 6 := by
  unfold treeOk hndsOk at ht
  simp only [Bool.and_eq_true, decide_eq_true_eq, List.all_eq_true] at ht
  refine ⟨ht.2.1.2.1, fun y hy => ?_, ht.2.1.2.2⟩
  have := ht.2.1.1 y hy
  unfold hndOk at this
  simp only [Bool.and_eq_true, Bool.not_eq_true', decide_eq_false_iff_not] at this
  exact this.2.1
end Go.Proofs.Ytihigemelekflaa

