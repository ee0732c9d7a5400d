/-
  PLAIN: a branch that is moved, and moved back.
-/
import Derived.Test.YtcgcbgbmofooiaaC13
import Derived.Test.YtcgcbgbmofooiaaE12
namespace Go.Proofs.Ytcgcbgbmofooiaa
open Go.RowKit Nm
set_option linter.unusedSimpArgs false
set_option linter.unusedVariables false

theorem below_split {a f : Name} (hf : f ≠ []) : belowL a f = true ↔ ∃ r, a = f ++ r ∧ (r = [] ∨ ∃ r', r = 46 :: r') := by
  unfold belowL
  simp only [Bool.or_eq_true, decide_eq_true_eq]
  constructor
  · rintro (h | h | ⟨r, h⟩)
    · exact absurd h hf
    · exact ⟨[], by rw [h]; simp, .inl rfl⟩
    · exact ⟨46 :: r, by rw [← h]; simp, .inr ⟨r, rfl⟩⟩
  · rintro ⟨r, rfl, h⟩
    rcases h with rfl | ⟨r', rfl⟩
    · exact .inr (.inl (by simp))
    · exact .inr (.inr ⟨r', by simp⟩)
theorem moved_below {f t : Name} (hf : f ≠ []) (ht : t ≠ []) {l : Lgr} (h : belowL l.nm f = true) : belowL (moveL f t l).nm t = true := by
  unfold moveL
  rw [if_pos h]
  obtain ⟨r, e, hr⟩ := (below_split hf).1 h
  exact (below_split ht).2 ⟨r, by show t ++ l.nm.drop f.length = _; rw [e]; simp, hr⟩
theorem moved_back {f t : Name} (hf : f ≠ []) (ht : t ≠ []) {l : Lgr} (hl : belowL l.nm t = false) : moveL t f (moveL f t l) = l := by
  cases h : belowL l.nm f with
  | true =>
    have h2 := moved_below hf ht h
    unfold moveL at h2 ⊢
    rw [if_pos h] at h2 ⊢
    rw [if_pos h2]
    obtain ⟨r, e, _⟩ := (below_split hf).1 h
    show { l with nm := f ++ (t ++ l.nm.drop f.length).drop t.length } = l
    have e2 : f ++ (t ++ l.nm.drop f.length).drop t.length = l.nm := by rw [List.drop_left, e]; simp
    rw [e2]
  | false =>
    have e1 : moveL f t l = l := by unfold moveL; rw [h]; rfl
    rw [e1]
    unfold moveL
    rw [hl]; rfl
theorem moveT_back {L : List Lgr} {f t : Name} (hf : f ≠ []) (ht : t ≠ []) (hl : ∀ l ∈ L, belowL l.nm t = false) : moveT (moveT L f t) t f = L := by
  unfold moveT
  rw [List.map_map]
  refine (List.map_congr_left fun l h => ?_).trans (List.map_id L)
  exact moved_back hf ht (hl l h)
theorem moveT_len (L : List Lgr) (f t : Name) : (moveT L f t).length = L.length := by unfold moveT; rw [List.length_map]
theorem moved_iff {f t : Name} (hf : f ≠ []) (ht : t ≠ []) {l : Lgr} (hl : belowL l.nm t = false) : belowL (moveL f t l).nm t = belowL l.nm f := by
  cases h : belowL l.nm f with
  | true => exact moved_below hf ht h
  | false =>
    have e1 : moveL f t l = l := by unfold moveL; rw [h]; rfl
    rw [e1]; exact hl
/-- what a branch's move leads to: nothing, or the tree with it, and back -/
theorem move_cases (L : List Lgr) (H : List Hnd) (q : Int) (f t : Name) : moveX L H q f t = none ∨
    (treeOk L H q = true ∧ treeOk (moveT L f t) H q = true ∧ moveX L H q f t = some (moveT L f t, H, q) ∧ dataFit (moveT L f t) H ∧
     (branchT L H q t = [] → moveX (moveT L f t) H q t f = some (L, H, q) ∧ (branchT (moveT L f t) H q t).length = (branchT L H q f).length)) := by
  by_cases hc : f = [] ∨ t = [] ∨ nameOk f = false ∨ nameOk t = false
  · exact .inl (by unfold moveX; rw [if_pos hc])
  · have hf : f ≠ [] := fun e => hc (.inl e)
    have ht : t ≠ [] := fun e => hc (.inr (.inl e))
    have hnf : nameOk f = true := by cases h : nameOk f with | true => rfl | false => exact absurd (.inr (.inr (.inl h))) hc
    have hnt : nameOk t = true := by cases h : nameOk t with | true => rfl | false => exact absurd (.inr (.inr (.inr h))) hc
    cases h1 : treeOk L H q with
    | false => exact .inl (by unfold moveX changedO; rw [if_neg hc, h1]; rfl)
    | true =>
      cases h2 : movedB L f with
      | false => exact .inl (by unfold moveX changedO; rw [if_neg hc, h1, h2]; rfl)
      | true =>
        cases h3 : treeOk (moveT L f t) H q with
        | false => exact .inl (by unfold moveX changedO; rw [if_neg hc, h1, h2]; simp [ifOk, h3])
        | true =>
          have hX : moveX L H q f t = some (moveT L f t, H, q) := by unfold moveX changedO; rw [if_neg hc, h1, h2]; simp [ifOk, h3]
          refine .inr ⟨rfl, rfl, hX, by have h9 := move_res_fit L H q f t; rw [hX] at h9; exact h9, fun hb => ?_⟩
          have hl : ∀ l ∈ L, belowL l.nm t = false := by
            intro l hm
            cases h : belowL l.nm t with
            | false => rfl
            | true =>
              rw [branchT_ok h1 hnt] at hb
              have : l.nm ∈ (nsOf L).filter (fun y => belowL y t) := List.mem_filter.2 ⟨List.mem_map.2 ⟨l, hm, rfl⟩, h⟩
              rw [hb] at this; cases this
          have h4 : movedB (moveT L f t) t = true := by
            unfold movedB at h2 ⊢
            obtain ⟨l, hm, hlf⟩ := List.any_eq_true.1 h2
            exact List.any_eq_true.2 ⟨moveL f t l, List.mem_map.2 ⟨l, hm, rfl⟩, moved_below hf ht hlf⟩
          refine ⟨?_, ?_⟩
          · have hc2 : ¬ (t = [] ∨ f = [] ∨ nameOk t = false ∨ nameOk f = false) := by
              rintro (e | e | e | e)
              · exact ht e
              · exact hf e
              · rw [hnt] at e; cases e
              · rw [hnf] at e; cases e
            unfold moveX changedO
            rw [if_neg hc2, h3, h4, moveT_back hf ht hl]
            simp [ifOk, h1]
          · rw [branchT_ok h3 hnt, branchT_ok h1 hnf, ← List.countP_eq_length_filter, ← List.countP_eq_length_filter]
            unfold nsOf moveT
            rw [List.map_map, List.countP_map, List.countP_map]
            refine List.countP_congr fun l hm => ?_
            show belowL (moveL f t l).nm t = true ↔ belowL l.nm f = true
            rw [moved_iff hf ht (hl l hm)]
end Go.Proofs.Ytcgcbgbmofooiaa
