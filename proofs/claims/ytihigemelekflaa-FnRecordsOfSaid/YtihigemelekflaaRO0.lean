/-
  RECORDS OF HANDLERS: plain: of all different handlers together as many as are sent.
-/
import Derived.Test.YtihigemelekflaaUM
namespace Go.Proofs.Ytihigemelekflaa
open Go.RowKit Nm
set_option linter.unusedSimpArgs false
set_option linter.unusedVariables false

theorem recsOf_takes (l : List Snt) (x : List UInt8) : ∀ k, k ≤ l.length → rounds (pickIf l fun _ s => decide (s.hd = x)) k = (l.take k).filter (fun s => decide (s.hd = x)) := by
  intro k
  induction k with
  | zero => intro _; rfl
  | succ k ih =>
    intro hk
    obtain ⟨y, hy⟩ : ∃ y, l[k]? = some y := ⟨_, List.getElem?_eq_getElem (by omega)⟩
    rw [List.take_add_one, hy, List.filter_append]
    by_cases h : decide (y.hd = x) = true
    · rw [rounds_hit (pickIf_hit hy h), ih (by omega)]
      simp [h]
    · rw [rounds_miss (pickIf_miss hy (by simpa using h)), ih (by omega)]
      simp [h]
theorem recsOf_count (l : List Snt) (x : List UInt8) : (recsOf l x).length = l.countP (fun s => decide (s.hd = x)) := by
  unfold recsOf
  rw [List.length_map, recsOf_takes l x l.length (Nat.le_refl _), List.take_length, List.countP_eq_length_filter]
/-- those of the handlers seen so far -/
def seenN (l : List Snt) (s : List (List UInt8)) : Nat := l.countP (fun x => decide (x.hd ∈ s))
theorem seenN_nil (l : List Snt) : seenN l [] = 0 := by unfold seenN; simp
theorem seenN_add (l : List Snt) {s : List (List UInt8)} {t : List UInt8} (h : t ∉ s) : seenN l (s ++ [t]) = seenN l s + (recsOf l t).length := by
  rw [recsOf_count]
  unfold seenN
  induction l with
  | nil => rfl
  | cons a l ih =>
    rw [List.countP_cons, List.countP_cons, List.countP_cons, ih]
    by_cases h1 : a.hd = t
    · rw [h1]
      simp [h]
      omega
    · by_cases h2 : a.hd ∈ s
      · simp [h1, h2]; omega
      · simp [h1, h2]
theorem seenN_all {l : List Snt} {s : List (List UInt8)} (h : ∀ x ∈ l, x.hd ∈ s) : seenN l s = l.length := by
  unfold seenN
  rw [List.countP_eq_length]
  exact fun x hx => decide_eq_true (h x hx)
theorem seenN_le (l : List Snt) (s : List (List UInt8)) : seenN l s ≤ l.length := List.countP_le_length
theorem seen_has {l : List Snt} {s : List (List UInt8)} (h1 : ∀ x ∈ l, x.hd ∈ s) (h2 : ∀ t ∈ s, ∃ x ∈ l, x.hd = t) (x : List UInt8) : decide (x ∈ s) = decide (0 < (recsOf l x).length) := by
  refine decide_eq_decide.2 ⟨fun h => ?_, fun h => ?_⟩
  · rw [recsOf_count]
    obtain ⟨y, hy, he⟩ := h2 x h
    exact List.countP_pos_iff.2 ⟨y, hy, decide_eq_true he⟩
  · rw [recsOf_count] at h
    obtain ⟨y, hy, he⟩ := List.countP_pos_iff.1 h
    rw [← of_decide_eq_true he]
    exact h1 y hy
end Go.Proofs.Ytihigemelekflaa
