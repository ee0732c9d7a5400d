/-
  LAWS OF RECORDS, plain: repeats dropped leave none.
-/
import Derived.Test.YthgkkckbncgfmaaD6
namespace Go.Proofs.Ythgkkckbncgfmaa
open Go.RowKit Nm
set_option linter.unusedSimpArgs false
set_option linter.unusedVariables false

theorem alike_eq {x y : Rec} (h : alike x y = true) (z : Rec) : alike x z = alike y z := by
  unfold alike at h ⊢
  simp only [Bool.and_eq_true, decide_eq_true_eq] at h
  rw [h.1, h.2.1, h.2.2]
theorem getq_snoc {α : Type} (l : List α) (x : α) (k : Nat) : (l ++ [x])[k]? = if k < l.length then l[k]? else if k = l.length then some x else none := by
  by_cases h : k < l.length
  · rw [if_pos h, List.getElem?_append_left h]
  · rw [if_neg h, List.getElem?_append_right (by omega)]
    by_cases h2 : k = l.length
    · rw [if_pos h2, h2]; simp
    · rw [if_neg h2]; exact List.getElem?_eq_none (by simp; omega)
def Adj (l : List Rec) : Prop := ∀ k x y, l[k]? = some x → l[k + 1]? = some y → alike x y = false
theorem drop_inv (l : List Rec) (n : Nat) (hn : n ≤ l.length) :
    Adj (rounds (pickIf l (fresh l)) n) ∧ ((n = 0 ∧ rounds (pickIf l (fresh l)) n = []) ∨ ∃ z p k, n = k + 1 ∧ (rounds (pickIf l (fresh l)) n)[(rounds (pickIf l (fresh l)) n).length - 1]? = some z ∧ l[k]? = some p ∧ alike z p = true ∧ 0 < (rounds (pickIf l (fresh l)) n).length ∧ (rounds (pickIf l (fresh l)) n)[0]? = l[0]?) := by
  induction n with
  | zero => exact ⟨fun k x y h => by simp [rounds] at h, .inl ⟨rfl, rfl⟩⟩
  | succ n ih =>
    obtain ⟨h1, h2⟩ := ih (by omega)
    have hr : l[n]? = some l[n] := List.getElem?_eq_getElem (by omega)
    generalize l[n] = r at hr
    cases hf : fresh l n r with
    | false =>
      rw [rounds_miss (pickIf_miss hr hf)]
      rcases h2 with ⟨rfl, _⟩ | ⟨z, p, k, rfl, hz, hp, ha, h0, h00⟩
      · simp [fresh_zero] at hf
      · rw [fresh_succ l k p r hp] at hf
        have hpr : alike p r = true := by simpa using hf
        exact ⟨h1, .inr ⟨z, r, k + 1, rfl, hz, hr, by rw [alike_comm, ← alike_eq hpr, alike_comm]; exact ha, h0, h00⟩⟩
    | true =>
      rw [rounds_hit (pickIf_hit hr hf)]
      generalize hY : rounds (pickIf l (fresh l)) n = Y at *
      have hlast : (Y ++ [r])[(Y ++ [r]).length - 1]? = some r := by rw [getq_snoc]; simp
      rcases h2 with ⟨rfl, hn0⟩ | ⟨z, p, k, rfl, hz, hp, ha, h0, h00⟩
      · subst hn0
        refine ⟨fun k x y hx hy => ?_, .inr ⟨r, r, 0, rfl, hlast, hr, by unfold alike; simp, by simp, by rw [hr]; rfl⟩⟩
        have := (List.getElem?_eq_some_iff.1 hy).1
        simp at this
      · rw [fresh_succ l k p r hp] at hf
        have hpr : alike p r = false := by simpa using hf
        have hzr : alike z r = false := by rw [alike_eq ha]; exact hpr
        refine ⟨fun j x y hx hy => ?_, .inr ⟨r, r, k + 1, rfl, hlast, hr, by unfold alike; simp, by simp, by rw [List.getElem?_append_left h0]; exact h00⟩⟩
        have hj := (List.getElem?_eq_some_iff.1 hy).1
        rw [List.length_append] at hj
        have hj' : j + 1 < Y.length + 1 := hj
        rw [List.getElem?_append_left (by omega)] at hx
        by_cases hj2 : j + 1 < Y.length
        · rw [List.getElem?_append_left hj2] at hy
          exact h1 j x y hx hy
        · have e : j = Y.length - 1 := by omega
          subst e
          rw [getq_snoc, if_neg hj2, if_pos (by omega)] at hy
          rw [hz] at hx
          cases hx; cases hy
          exact hzr
theorem drop_adj (l : List Rec) : Adj (dropReps l) := by
  unfold dropReps; split
  · exact (drop_inv l l.length (Nat.le_refl _)).1
  · intro k x y h; simp at h
theorem drop_head {l : List Rec} (h : recsOk l = true) : (l = [] → dropReps l = []) ∧ (∀ x, l[0]? = some x → (dropReps l)[0]? = some x) := by
  unfold dropReps
  rw [if_pos h]
  refine ⟨fun e => by subst e; rfl, fun x hx => ?_⟩
  rcases (drop_inv l l.length (Nat.le_refl _)).2 with ⟨h0, _⟩ | ⟨z, p, k, _, _, _, _, _, h00⟩
  · have := (List.getElem?_eq_some_iff.1 hx).1; omega
  · rw [h00, hx]
theorem adj_all {l : List Rec} (h : Adj l) (n : Nat) (hn : n ≤ l.length) : rounds (pickIf l (fresh l)) n = l.take n := by
  induction n with
  | zero => simp [rounds]
  | succ n ih =>
    have hr : l[n]? = some l[n] := List.getElem?_eq_getElem (by omega)
    have hf : fresh l n l[n] = true := by
      cases n with
      | zero => exact fresh_zero _ _
      | succ n =>
        have hp : l[n]? = some l[n] := List.getElem?_eq_getElem (by omega)
        rw [fresh_succ l n _ _ hp, h n _ _ hp hr]; rfl
    rw [rounds_hit (pickIf_hit hr hf), ih (by omega), List.take_add_one, hr]; rfl
theorem drop_again {l : List Rec} (h : recsOk l = true) : dropReps (dropReps l) = dropReps l := by
  have h2 : recsOk (dropReps l) = true := recs_sub h (drop_sub l).1 (drop_sub l).2
  have e : ∀ m, recsOk m = true → dropReps m = rounds (pickIf m (fresh m)) m.length := fun m h => by unfold dropReps; rw [if_pos h]
  rw [e _ h2, adj_all (drop_adj l) _ (Nat.le_refl _), List.take_length]
end Go.Proofs.Ythgkkckbncgfmaa
