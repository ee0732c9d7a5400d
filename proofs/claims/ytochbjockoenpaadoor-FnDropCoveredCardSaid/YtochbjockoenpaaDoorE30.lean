/-
  RULES THAT ARE COVERED: plain: the first rule stays; what is kept is kept again. The draw of the law. By gen_dropcov.py.
-/
import Derived.Test.YtochbjockoenpaaDoorE29
import Derived.Test.YtochbjockoenpaaDoorR14
namespace Go.Proofs.YtochbjockoenpaaDoor
open Go.RowKit Go.Proofs.YtochbjockoenpaaDoor.Nm
set_option linter.unusedSimpArgs false
set_option linter.unusedVariables false

theorem below3 {x y z : Name} (h1 : belowL x y = true) (h2 : belowL y z = true) : belowL x z = true := by
  unfold belowL at *
  simp only [Bool.or_eq_true, decide_eq_true_eq] at *
  rcases h2 with rfl | rfl | h2
  · exact .inl rfl
  · exact h1
  · rcases h1 with rfl | rfl | h1
    · have h9 := h2.length_le
      simp at h9
    · exact .inr (.inr h2)
    · exact .inr (.inr (h2.trans ((List.prefix_append y [46]).trans h1)))
/-- what falls under a covered rule falls under the one that covers it -/
theorem falls_cov {w : Wrn} {x y : Rul} (h1 : covB x y = true) (h2 : fallsB w y = true) : fallsB w x = true := by
  unfold covB at h1
  unfold fallsB at h2 ⊢
  simp only [Bool.and_eq_true, Bool.or_eq_true, decide_eq_true_eq] at h1 h2 ⊢
  obtain ⟨a1, a2, a3⟩ := h1
  obtain ⟨b1, b2, b3⟩ := h2
  refine ⟨?_, below3 b2 a2, ?_⟩
  · rcases a1 with h | h
    · exact .inl h
    · rw [h]; exact b1
  · rcases a3 with h | h
    · exact .inl h
    · rw [h]; exact b3
def keptK (l : List Rul) (k : Nat) : List Rul := rounds (pickIf l (freeC l)) k
theorem dropCov_kept {l : List Rul} (h : rulsOk l = true) : dropCov l = keptK l l.length := by unfold dropCov keptK; rw [if_pos h]
theorem kept_step {l : List Rul} {k : Nat} {x : Rul} (hx : l[k]? = some x) : keptK l (k + 1) = keptK l k ++ (if freeC l k x then [x] else []) := by
  unfold keptK
  by_cases h : freeC l k x = true
  · rw [rounds_hit (pickIf_hit hx h), if_pos h]
  · rw [rounds_miss (pickIf_miss hx (by simpa using h)), if_neg h, List.append_nil]
theorem take_step {l : List Rul} {k : Nat} {x : Rul} (hx : l[k]? = some x) : l.take (k + 1) = l.take k ++ [x] := by rw [List.take_add_one, hx]; rfl
theorem kept_mem {l : List Rul} {k : Nat} (hk : k ≤ l.length) : ∀ y ∈ keptK l k, y ∈ l.take k := by
  induction k with
  | zero => intro y hy; cases hy
  | succ k ih =>
    obtain ⟨x, hx⟩ : ∃ x, l[k]? = some x := ⟨_, List.getElem?_eq_getElem (by omega)⟩
    rw [kept_step hx, take_step hx]
    intro y hy
    rcases List.mem_append.1 hy with h | h
    · exact List.mem_append_left _ (ih (by omega) y h)
    · refine List.mem_append_right _ ?_
      split at h
      · exact h
      · cases h
theorem kept_find {l : List Rul} {w : Wrn} {k : Nat} (hk : k ≤ l.length) : (keptK l k).find? (fallsB w) = (l.take k).find? (fallsB w) := by
  induction k with
  | zero => rfl
  | succ k ih =>
    obtain ⟨x, hx⟩ : ∃ x, l[k]? = some x := ⟨_, List.getElem?_eq_getElem (by omega)⟩
    rw [kept_step hx, take_step hx, List.find?_append, List.find?_append, ih (by omega)]
    cases e : (l.take k).find? (fallsB w) with
    | some y => rfl
    | none =>
      by_cases hf : freeC l k x = true
      · rw [if_pos hf]
      · rw [if_neg hf]
        unfold freeC at hf
        simp only [Bool.not_eq_true', Bool.not_eq_false] at hf
        obtain ⟨y, hy, hc⟩ := List.any_eq_true.1 hf
        have h9 := List.find?_eq_none.1 e y hy
        have h8 : fallsB w x = false := by
          cases hfx : fallsB w x with
          | false => rfl
          | true => exact absurd (falls_cov hc hfx) h9
        simp [List.find?, h8]
theorem kept_pair {l : List Rul} {k : Nat} (hk : k ≤ l.length) : (keptK l k).Pairwise (fun a b => covB a b = false) := by
  induction k with
  | zero => exact List.Pairwise.nil
  | succ k ih =>
    obtain ⟨x, hx⟩ : ∃ x, l[k]? = some x := ⟨_, List.getElem?_eq_getElem (by omega)⟩
    rw [kept_step hx]
    by_cases hf : freeC l k x = true
    · rw [if_pos hf]
      refine List.pairwise_append.2 ⟨ih (by omega), List.pairwise_singleton _ _, fun a ha b hb => ?_⟩
      rw [List.mem_singleton] at hb
      subst hb
      unfold freeC at hf
      simp only [Bool.not_eq_true'] at hf
      have h9 := List.any_eq_false.1 hf a (kept_mem (by omega) a ha)
      simpa using h9
    · rw [if_neg hf, List.append_nil]
      exact ih (by omega)
theorem kept_all {l : List Rul} (hp : l.Pairwise (fun a b => covB a b = false)) {k : Nat} (hk : k ≤ l.length) : keptK l k = l.take k := by
  induction k with
  | zero => rfl
  | succ k ih =>
    obtain ⟨x, hx⟩ : ∃ x, l[k]? = some x := ⟨_, List.getElem?_eq_getElem (by omega)⟩
    have hf : freeC l k x = true := by
      unfold freeC
      simp only [Bool.not_eq_true']
      refine List.any_eq_false.2 fun a ha => ?_
      obtain ⟨i, hi, he⟩ := List.getElem_of_mem ha
      rw [List.length_take] at hi
      rw [List.getElem_take] at he
      obtain ⟨hk1, he2⟩ := List.getElem?_eq_some_iff.1 hx
      have h9 := List.pairwise_iff_getElem.1 hp i k (by omega) hk1 (by omega)
      rw [he, he2] at h9
      simp [h9]
    rw [kept_step hx, take_step hx, if_pos hf, ih (by omega)]
theorem dropCov_ok {l : List Rul} (h : rulsOk l = true) : rulsOk (dropCov l) = true := by
  rw [dropCov_kept h]
  exact ruls_sub h (fun x hx => List.mem_of_mem_take (kept_mem (Nat.le_refl _) x hx)) (rounds_len _ (fun i => pickIf_len _ _ i) _)
theorem dropCov_le {l : List Rul} (h : rulsOk l = true) : (dropCov l).length ≤ l.length := by
  rw [dropCov_kept h]; exact rounds_len _ (fun i => pickIf_len _ _ i) _
theorem dropCov_again {l : List Rul} (h : rulsOk l = true) : dropCov (dropCov l) = dropCov l := by
  rw [dropCov_kept (dropCov_ok h), kept_all (by rw [dropCov_kept h]; exact kept_pair (Nat.le_refl _)) (Nat.le_refl _), List.take_length]
theorem firstIx_find {α : Type} (p : α → Bool) (l : List α) : (firstIx p l = none ∧ l.find? p = none) ∨ ∃ (k : Nat) (x : α), firstIx p l = some k ∧ l.find? p = some x ∧ l[k]? = some x := by
  induction l with
  | nil => exact .inl ⟨rfl, rfl⟩
  | cons a l ih =>
    unfold firstIx
    by_cases hp : p a = true
    · refine .inr ⟨0, a, by rw [if_pos hp], ?_, rfl⟩
      simp [List.find?, hp]
    · have hp' : p a = false := by simpa using hp
      rw [if_neg hp]
      rcases ih with ⟨h1, h2⟩ | ⟨k, x, h1, h2, h3⟩
      · refine .inl ⟨by rw [h1]; rfl, ?_⟩
        simp [List.find?, hp']
        simpa using h2
      · refine .inr ⟨k + 1, x, by rw [h1]; rfl, ?_, by simpa using h3⟩
        simp only [List.find?, hp', h2]
/-- the first rule is the same one, where there is one -/
theorem rule_kept {l : List Rul} (h : rulsOk l = true) (w : Wrn) : (ruleX l w = -1 ∧ ruleX (dropCov l) w = -1) ∨ ∃ (i j : Nat) (x : Rul), ruleX l w = (i : Int) ∧ ruleX (dropCov l) w = (j : Int) ∧ l[i]? = some x ∧ (dropCov l)[j]? = some x := by
  have h9 : (dropCov l).find? (fallsB w) = l.find? (fallsB w) := by
    have h8 := kept_find (w := w) (Nat.le_refl l.length)
    rw [List.take_length, ← dropCov_kept h] at h8
    exact h8
  have h2 := dropCov_ok h
  unfold ruleX
  rw [h, h2]
  cases hw : wrnOk w with
  | false => exact .inl ⟨rfl, rfl⟩
  | true =>
    show (ruleIx l w = -1 ∧ ruleIx (dropCov l) w = -1) ∨ ∃ (i j : Nat) (x : Rul), ruleIx l w = (i : Int) ∧ ruleIx (dropCov l) w = (j : Int) ∧ _
    unfold ruleIx
    rcases firstIx_find (fallsB w) l with ⟨a1, a2⟩ | ⟨i, x, a1, a2, a3⟩
    · rcases firstIx_find (fallsB w) (dropCov l) with ⟨b1, b2⟩ | ⟨j, y, b1, b2, b3⟩
      · rw [a1, b1]; exact .inl ⟨rfl, rfl⟩
      · rw [b2, a2] at h9; cases h9
    · rcases firstIx_find (fallsB w) (dropCov l) with ⟨b1, b2⟩ | ⟨j, y, b1, b2, b3⟩
      · rw [b2, a2] at h9; cases h9
      · rw [b2, a2] at h9
        cases h9
        rw [a1, b1]
        exact .inr ⟨i, j, x, rfl, rfl, a3, b3⟩

set_option maxHeartbeats 4000000 in
set_option maxRecDepth 100000 in
theorem drawDropCovered_c (a : Option Addr) (len cap : Nat) (z : List Int) (w : World) (h : IsRow .u8 w a len cap z) :
    Calls Tryd.prog 4 #[.slice a len cap] w (DrawRuls w) := by
  have C := hid (newReader_c a len cap z w h)
  clear h
  go_enter Tryd.func4, Tryd.ntmps4
  go_wp2_with fail
  refine C.out.mono ?_
  rintro e w1 ⟨rfl, hr1, hb1⟩
  have HB1 := hid hb1
  have C1 := hid (someRules_c w.heap.size 0 w1 hr1 (by omega))
  clear hr1 hb1 C
  go_wp2_with fail
  refine C1.out.mono ?_
  rintro e w2 ⟨v, l, p2, rfl, hl, hf, ho2, hp2, hr2, hg2⟩
  obtain ⟨A, c, rfl, _, _⟩ := (Sl.of_own ho2).form
  generalize hln : l.length = ln at *
  replace hln := hid hln
  have O2 := hid ho2
  have G2 := hid hg2
  have F2 := hid hf
  have HB2 := hid (show Below w.heap.size w w2 from HB1.out.trans (below_own hg2 HB1.out.size (Nat.le_refl _)))
  clear ho2 hr2 hg2 hf C1
  go_wp2_with fail
  go_ret
  exact ⟨_, l, ln, rfl, own_base O2.out HB1.out.size, HB2.out, F2.out, hln.out, hl⟩
end Go.Proofs.YtochbjockoenpaaDoor
