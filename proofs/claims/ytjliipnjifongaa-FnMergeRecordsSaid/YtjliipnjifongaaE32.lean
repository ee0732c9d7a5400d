/-
  MERGES, plain: merged records of sorted lists are sorted; at least a level, ahead or behind, is one. By gen_merge.py.
-/
import Derived.Test.YtjliipnjifongaaR9
import Derived.Test.YtjliipnjifongaaS1
namespace Go.Proofs.Ytjliipnjifongaa
open Go.RowKit Nm
set_option linter.unusedSimpArgs false
set_option linter.unusedVariables false

abbrev sqOrd (l : List Rec) : Prop := l.Pairwise (fun x y => x.sq ≤ y.sq)
theorem rounds_filter {l : List Rec} {p : Rec → Bool} {k : Nat} (hk : k ≤ l.length) : rounds (pickIf l fun _ y => p y) k = (l.take k).filter p := by
  induction k with
  | zero => rfl
  | succ k ih =>
    obtain ⟨x, hx⟩ : ∃ x, l[k]? = some x := ⟨_, List.getElem?_eq_getElem (by omega)⟩
    rw [List.take_add_one, hx, List.filter_append]
    by_cases h : p x = true
    · rw [rounds_hit (pickIf_hit hx h), ih (by omega)]
      simp [h]
    · have h' : p x = false := by simpa using h
      rw [rounds_miss (pickIf_miss hx h'), ih (by omega)]
      simp [h']
theorem atL_filter (l : List Rec) (a : Int) : atL l a = l.filter (fun y => decide (a ≤ y.lv)) := by
  unfold atL
  rw [rounds_filter (Nat.le_refl _), List.take_length]
theorem mergeR_mem {a b : List Rec} {z : Rec} (h : z ∈ mergeR a b) : z ∈ a ∨ z ∈ b := by
  induction a, b using mergeR.induct with
  | case1 b => rw [mergeR_nil] at h; exact .inr h
  | case2 x a => rw [mergeR_none] at h; exact .inl h
  | case3 x a y b hxy ih =>
    rw [mergeR_left hxy] at h
    rcases List.mem_cons.1 h with rfl | h
    · exact .inl (by simp)
    · rcases ih h with h | h
      · exact .inl (List.mem_cons_of_mem _ h)
      · exact .inr h
  | case4 x a y b hxy ih =>
    rw [mergeR_right hxy] at h
    rcases List.mem_cons.1 h with rfl | h
    · exact .inr (by simp)
    · rcases ih h with h | h
      · exact .inl h
      · exact .inr (List.mem_cons_of_mem _ h)
theorem merge_ord {a b : List Rec} (ha : sqOrd a) (hb : sqOrd b) : sqOrd (mergeR a b) := by
  induction a, b using mergeR.induct with
  | case1 b => rw [mergeR_nil]; exact hb
  | case2 x a => rw [mergeR_none]; exact ha
  | case3 x a y b hxy ih =>
    rw [mergeR_left hxy]
    have h1 := List.pairwise_cons.1 ha
    refine List.pairwise_cons.2 ⟨fun z hz => ?_, ih h1.2 hb⟩
    rcases mergeR_mem hz with hz | hz
    · exact h1.1 z hz
    · rcases List.mem_cons.1 hz with rfl | hz
      · exact hxy
      · exact Int.le_trans hxy ((List.pairwise_cons.1 hb).1 z hz)
  | case4 x a y b hxy ih =>
    rw [mergeR_right hxy]
    have h1 := List.pairwise_cons.1 hb
    refine List.pairwise_cons.2 ⟨fun z hz => ?_, ih ha h1.2⟩
    rcases mergeR_mem hz with hz | hz
    · rcases List.mem_cons.1 hz with rfl | hz
      · omega
      · have := (List.pairwise_cons.1 ha).1 z hz; omega
    · exact h1.1 z hz
theorem merge_filter {a b : List Rec} (p : Rec → Bool) (ha : sqOrd a) (hb : sqOrd b) : (mergeR a b).filter p = mergeR (a.filter p) (b.filter p) := by
  induction a, b using mergeR.induct with
  | case1 b => rw [mergeR_nil, List.filter_nil, mergeR_nil]
  | case2 x a => rw [mergeR_none, List.filter_nil, mergeR_none]
  | case3 x a y b hxy ih =>
    have h1 := List.pairwise_cons.1 ha
    have h2 := ih h1.2 hb
    rw [mergeR_left hxy]
    by_cases hp : p x = true
    · rw [List.filter_cons_of_pos hp, List.filter_cons_of_pos hp, h2]
      cases hq : (y :: b).filter p with
      | nil => rw [mergeR_none, mergeR_none]
      | cons z c =>
        have hz : z ∈ y :: b := (List.mem_filter.1 (show z ∈ (y :: b).filter p by rw [hq]; simp)).1
        have hxz : x.sq ≤ z.sq := by
          rcases List.mem_cons.1 hz with rfl | hz
          · exact hxy
          · exact Int.le_trans hxy ((List.pairwise_cons.1 hb).1 z hz)
        rw [mergeR_left hxz]
    · rw [List.filter_cons_of_neg hp, List.filter_cons_of_neg hp, h2]
  | case4 x a y b hxy ih =>
    have h1 := List.pairwise_cons.1 hb
    have h2 := ih ha h1.2
    rw [mergeR_right hxy]
    by_cases hp : p y = true
    · rw [List.filter_cons_of_pos hp, List.filter_cons_of_pos hp, h2]
      cases hq : (x :: a).filter p with
      | nil => rw [mergeR_nil, mergeR_nil]
      | cons z c =>
        have hz : z ∈ x :: a := (List.mem_filter.1 (show z ∈ (x :: a).filter p by rw [hq]; simp)).1
        have hyz : ¬ z.sq ≤ y.sq := by
          rcases List.mem_cons.1 hz with rfl | hz
          · exact hxy
          · have := (List.pairwise_cons.1 ha).1 z hz; omega
        rw [mergeR_right hyz]
    · rw [List.filter_cons_of_neg hp, List.filter_cons_of_neg hp, h2]
theorem recs_sub {l : List Rec} (p : Rec → Bool) (h : recsOk l = true) : recsOk (l.filter p) = true := by
  unfold recsOk at h ⊢
  simp only [Bool.and_eq_true, List.all_eq_true, decide_eq_true_eq] at h ⊢
  exact ⟨fun x hx => h.1 x (List.mem_filter.1 hx).1, Nat.le_trans (List.length_filter_le _ _) h.2⟩
theorem merge_parts {a b : List Rec} (h : mergeOk a b = true) : recsOk a = true ∧ recsOk b = true ∧ a.length + b.length ≤ 12 := by
  unfold mergeOk at h
  simpa only [Bool.and_eq_true, decide_eq_true_eq] using h
theorem mergeX_yes {a b : List Rec} (h : mergeOk a b = true) : mergeX a b = mergeR a b := by unfold mergeX; rw [if_pos h]
theorem merge_at {a b : List Rec} (k : Int) (h : mergeOk a b = true) : mergeOk (atLX a k) (atLX b k) = true := by
  obtain ⟨h1, h2, h3⟩ := merge_parts h
  unfold atLX
  rw [if_pos h1, if_pos h2, atL_filter, atL_filter]
  unfold mergeOk
  have e1 := List.length_filter_le (fun y : Rec => decide (k ≤ y.lv)) a
  have e2 := List.length_filter_le (fun y : Rec => decide (k ≤ y.lv)) b
  simp only [recs_sub _ h1, recs_sub _ h2, Bool.true_and, decide_eq_true_eq]
  omega
theorem recOk_merge {a b : List Rec} (h : mergeOk a b = true) : recsOk (mergeR a b) = true := by
  obtain ⟨h1, h2, h3⟩ := merge_parts h
  unfold recsOk at h1 h2 ⊢
  simp only [Bool.and_eq_true, List.all_eq_true, decide_eq_true_eq] at h1 h2 ⊢
  refine ⟨fun x hx => ?_, by rw [mergeR_len]; exact h3⟩
  rcases mergeR_mem hx with hx | hx
  · exact h1.1 x hx
  · exact h2.1 x hx
/-- at least a level, ahead of the merge or behind it -/
theorem merge_level {a b : List Rec} (k : Int) (h : mergeOk a b = true) (ha : sqOrd a) (hb : sqOrd b) : mergeX (atLX a k) (atLX b k) = atLX (mergeX a b) k := by
  obtain ⟨h1, h2, h3⟩ := merge_parts h
  rw [mergeX_yes (merge_at k h), mergeX_yes h]
  unfold atLX
  rw [if_pos h1, if_pos h2, if_pos (recOk_merge h), atL_filter, atL_filter, atL_filter, merge_filter _ ha hb]
theorem merge_alone {a : List Rec} (h : recsOk a = true) : mergeOk a [] = true ∧ mergeX a [] = a := by
  have h9 : mergeOk a [] = true := by
    have h1 := h
    unfold recsOk at h1
    simp only [Bool.and_eq_true, decide_eq_true_eq] at h1
    unfold mergeOk
    rw [h]
    simp only [Bool.true_and, Bool.and_eq_true, decide_eq_true_eq, List.length_nil]
    exact ⟨by decide, by omega⟩
  exact ⟨h9, by rw [mergeX_yes h9, mergeR_none]⟩
/-- sorted as far as place k -/
def ordK (l : List Rec) (k : Nat) : Prop := ∀ j x y, j + 1 < k → l[j]? = some x → l[j + 1]? = some y → x.sq ≤ y.sq
theorem ordK_one (l : List Rec) : ordK l 1 := fun j x y h => by omega
theorem ordK_step {l : List Rec} {k : Nat} {x y : Rec} (h : ordK l (k + 1)) (hx : l[k]? = some x) (hy : l[k + 1]? = some y) (hs : x.sq ≤ y.sq) : ordK l (k + 2) := by
  intro j x' y' hj hx' hy'
  by_cases e : j = k
  · subst e
    rw [hx] at hx'; rw [hy] at hy'
    cases hx'; cases hy'
    exact hs
  · exact h j x' y' (by omega) hx' hy'
theorem ord_of {l : List Rec} : ∀ {k : Nat}, ordK l k → l.length ≤ k → sqOrd l := by
  induction l with
  | nil => intro k _ _; exact List.Pairwise.nil
  | cons x l ih =>
    intro k h hl
    have h2 : sqOrd l := ih (k := l.length) (fun j x' y' hj hx' hy' => h (j + 1) x' y' (by simp only [List.length_cons] at hl; omega) (by simpa using hx') (by simpa using hy')) (Nat.le_refl _)
    refine List.pairwise_cons.2 ⟨fun z hz => ?_, h2⟩
    cases l with
    | nil => cases hz
    | cons y l =>
      have hxy : x.sq ≤ y.sq := h 0 x y (by simp only [List.length_cons] at hl; omega) rfl rfl
      rcases List.mem_cons.1 hz with rfl | hz
      · exact hxy
      · exact Int.le_trans hxy ((List.pairwise_cons.1 h2).1 z hz)
theorem ord_at {l : List Rec} (h : sqOrd l) {k : Nat} {x y : Rec} (hx : l[k]? = some x) (hy : l[k + 1]? = some y) : x.sq ≤ y.sq := by
  obtain ⟨h1, rfl⟩ := List.getElem?_eq_some_iff.1 hx
  obtain ⟨h2, rfl⟩ := List.getElem?_eq_some_iff.1 hy
  exact List.pairwise_iff_getElem.1 h k (k + 1) h1 h2 (by omega)
end Go.Proofs.Ytjliipnjifongaa
