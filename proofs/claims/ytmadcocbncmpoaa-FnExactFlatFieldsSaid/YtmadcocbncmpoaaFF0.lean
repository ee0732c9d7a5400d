/-
  FIELDS TOLD TOGETHER, plain.
-/
import Derived.Test.YtmadcocbncmpoaaR12
import Derived.Test.YtmadcocbncmpoaaKFldss
namespace Go.Proofs.Ytmadcocbncmpoaa
open Go.RowKit Nm
set_option linter.unusedSimpArgs false
set_option linter.unusedVariables false

/-- a field put into others -/
def putF (o : List Fld) (f : Fld) : List Fld := if f.ky ∈ keysOf o then o.set ((keysOf o).idxOf f.ky) f else o ++ [f]
def flatL (o l : List Fld) : List Fld := l.foldl putF o
def flatS (o : List Fld) (s : List (List Fld)) : List Fld := s.foldl flatL o
def ffOk (s : List (List Fld)) : Bool := s.all fldsOk && decide (s.length ≤ 4)
def ffX (s : List (List Fld)) : List Fld := if ffOk s then flatS [] s else []

theorem putF_len (o : List Fld) (f : Fld) : (putF o f).length ≤ o.length + 1 := by unfold putF; split <;> simp
theorem flatL_len (l : List Fld) : ∀ o : List Fld, (flatL o l).length ≤ o.length + l.length := by
  induction l with
  | nil => intro o; exact Nat.le_refl _
  | cons f t ih => intro o; have h1 := ih (putF o f); have h2 := putF_len o f; show (flatL (putF o f) t).length ≤ o.length + (t.length + 1); omega
theorem flds_len {l : List Fld} (h : fldsOk l = true) : l.length ≤ 5 := by unfold fldsOk at h; simp only [Bool.and_eq_true, decide_eq_true_eq] at h; exact h.2
theorem flatS_len (s : List (List Fld)) (h : ∀ l ∈ s, fldsOk l = true) : ∀ o : List Fld, (flatS o s).length ≤ o.length + 5 * s.length := by
  induction s with
  | nil => intro o; exact Nat.le_refl _
  | cons l t ih =>
    intro o
    have h1 := ih (fun x hx => h x (by simp [hx])) (flatL o l)
    have h2 := flatL_len l o
    have h3 := flds_len (h l (by simp))
    show (flatS (flatL o l) t).length ≤ o.length + 5 * (t.length + 1)
    omega
theorem putF_mem {o : List Fld} {f x : Fld} (h : x ∈ putF o f) : x ∈ o ∨ x = f := by
  unfold putF at h
  split at h
  · rcases List.mem_or_eq_of_mem_set h with h | h
    · exact .inl h
    · exact .inr h
  · rcases List.mem_append.1 h with h | h
    · exact .inl h
    · exact .inr (List.mem_singleton.1 h)
theorem flatL_mem (l : List Fld) : ∀ (o : List Fld) {x : Fld}, x ∈ flatL o l → x ∈ o ∨ x ∈ l := by
  induction l with
  | nil => intro o x h; exact .inl h
  | cons f t ih =>
    intro o x h
    rcases ih (putF o f) h with h | h
    · rcases putF_mem h with h | h
      · exact .inl h
      · exact .inr (by rw [h]; simp)
    · exact .inr (by simp [h])
theorem flatS_mem (s : List (List Fld)) : ∀ (o : List Fld) {x : Fld}, x ∈ flatS o s → x ∈ o ∨ ∃ l ∈ s, x ∈ l := by
  induction s with
  | nil => intro o x h; exact .inl h
  | cons l t ih =>
    intro o x h
    rcases ih (flatL o l) h with h | ⟨m, hm, hx⟩
    · rcases flatL_mem l o h with h | h
      · exact .inl h
      · exact .inr ⟨l, by simp, h⟩
    · exact .inr ⟨m, by simp [hm], hx⟩
theorem flatL_snoc (o l : List Fld) (f : Fld) : flatL o (l ++ [f]) = putF (flatL o l) f := by unfold flatL; rw [List.foldl_append]; rfl
theorem flatL_step {o l : List Fld} {k : Nat} {f : Fld} (h : l[k]? = some f) : flatL o (l.take (k + 1)) = putF (flatL o (l.take k)) f := by
  rw [List.take_add_one, h]; exact flatL_snoc o _ f
theorem flatS_step {o : List Fld} {s : List (List Fld)} {k : Nat} {l : List Fld} (h : s[k]? = some l) : flatS o (s.take (k + 1)) = flatL (flatS o (s.take k)) l := by
  rw [List.take_add_one, h]
  show flatS o (s.take k ++ [l]) = _
  unfold flatS; rw [List.foldl_append]; rfl
theorem ffOk_parts {s : List (List Fld)} (h : ffOk s = true) : (∀ l ∈ s, fldsOk l = true) ∧ s.length ≤ 4 := by
  unfold ffOk at h
  simp only [Bool.and_eq_true, List.all_eq_true, decide_eq_true_eq] at h
  exact h
theorem ffOk_bad {s : List (List Fld)} {k : Nat} {l : List Fld} (h : s[k]? = some l) (hl : fldsOk l = false) : ffX s = [] := by
  unfold ffX
  rw [if_neg]
  intro h9
  have := (ffOk_parts h9).1 l (List.mem_of_getElem? h)
  rw [hl] at this; cases this
theorem ffOk_long {s : List (List Fld)} (h : 4 < s.length) : ffX s = [] := by
  unfold ffX
  rw [if_neg]
  intro h9
  have := (ffOk_parts h9).2
  omega
theorem ffX_all {s : List (List Fld)} (h : ∀ l ∈ s, fldsOk l = true) (hn : s.length ≤ 4) : ffX s = flatS [] s := by
  unfold ffX ffOk
  rw [if_pos]
  simp only [Bool.and_eq_true, List.all_eq_true, decide_eq_true_eq]
  exact ⟨h, hn⟩
theorem ffX_fit {s : List (List Fld)} (h : ∀ l ∈ s, ∀ x ∈ l, fdcellsFit x) : FldsFit (ffX s) := by
  unfold ffX
  split
  · rename_i hz
    have hp := ffOk_parts hz
    refine ⟨?_, fun x hx => ?_⟩
    · have := flatS_len s hp.1 []
      simp at this
      unfold maxTxt; omega
    · rcases flatS_mem s [] hx with hx | ⟨l, hl, hx⟩
      · cases hx
      · exact h l hl x hx
  · exact FldsFit.nil
/-- where a key is, or none -/
theorem key_cases (o : List Fld) (f : Fld) : (idxL (keysOf o) f.ky = -1 ∧ putF o f = o ++ [f]) ∨ ∃ (k : Nat) (x : Fld), idxL (keysOf o) f.ky = (k : Int) ∧ k < o.length ∧ o[k]? = some x ∧ x.ky = f.ky ∧ putF o f = o.set k f := by
  unfold idxL putF
  by_cases h : f.ky ∈ keysOf o
  · rw [if_pos h, if_pos h]
    have hlt := List.idxOf_lt_length_of_mem h
    have hl : (keysOf o).length = o.length := by simp [keysOf]
    rw [hl] at hlt
    obtain ⟨x, hx⟩ : ∃ x, o[(keysOf o).idxOf f.ky]? = some x := ⟨_, List.getElem?_eq_getElem hlt⟩
    refine .inr ⟨_, x, rfl, hlt, hx, ?_, rfl⟩
    have h1 := keysOf_at hx
    have h2 : (keysOf o)[(keysOf o).idxOf f.ky]? = some f.ky := by
      rw [List.getElem?_eq_getElem (by rw [hl]; exact hlt), List.getElem_idxOf]
    rw [h1] at h2
    exact Option.some.inj h2
  · rw [if_neg h, if_neg h]
    exact .inl ⟨rfl, rfl⟩
end Go.Proofs.Ytmadcocbncmpoaa
