/-
  PLAIN: how many loggers are on a path, and in what order.
-/
import Derived.Test.YtjejildgbmkbbaaE8
namespace Go.Proofs.Ytjejildgbmkbbaa
open Go.RowKit Nm
set_option linter.unusedSimpArgs false
set_option linter.unusedVariables false

theorem count_or {α : Type} (p q r : α → Bool) (l : List α) (h : ∀ y ∈ l, p y = (q y || r y) ∧ ¬ (q y = true ∧ r y = true)) : l.countP p = l.countP q + l.countP r := by
  induction l with
  | nil => rfl
  | cons a l ih =>
    have ih := ih (fun y hy => h y (List.mem_cons_of_mem _ hy))
    obtain ⟨h1, h2⟩ := h a (List.mem_cons_self ..)
    rw [List.countP_cons, List.countP_cons, List.countP_cons, ih, h1]
    cases hq : q a <;> cases hr : r a <;> simp_all <;> omega
theorem belowL_trans {x y z : Name} (h1 : belowL x y = true) (h2 : belowL y z = true) : belowL x z = true := by
  rw [belowL_iff] at *
  exact h2.trans h1
theorem near_below {ns : List Name} (h0 : ns[0]? = some []) {z y : Name} (hy : y ∈ ns) : belowL z y = belowL (ns.getD (nearN ns z) []) y := by
  obtain ⟨b1, b2⟩ := best_spec h0 z ns.length (Nat.le_refl _)
  rw [Bool.eq_iff_iff]
  constructor
  · intro h
    obtain ⟨i, hi, he⟩ := List.getElem_of_mem hy
    have g : ns.getD i [] = y := by simp [List.getD, hi, he]
    refine below_chain b1 h ?_
    have := b2 i hi (by rw [g]; exact h)
    rw [g] at this
    exact this
  · exact fun h => belowL_trans b1 h
theorem path_count {ns : List Name} (h0 : ns[0]? = some []) (hnd : ns.Nodup) (hok : ∀ z ∈ ns, nameOk z = true) :
    ∀ (f k : Nat), k < ns.length → depthN ns k ≤ f → (pathF ns f k).length = ns.countP (fun y => belowL (ns.getD k []) y) := by
  have root : ∀ k, k < ns.length → ns.getD k [] = [] → ns.countP (fun y => belowL (ns.getD k []) y) = 1 := by
    intro k hk e
    rw [e]
    have h1 : ns.countP (fun y => belowL [] y) = ns.count [] := by
      unfold List.count
      refine List.countP_congr fun y hy => ?_
      simp only [beq_iff_eq]
      constructor
      · intro h; exact List.eq_nil_of_length_eq_zero (Nat.le_zero.1 (belowL_pre h).length_le)
      · rintro rfl; exact belowL_self _
    rw [h1]
    rw [hnd.count, if_pos (List.mem_of_getElem? h0)]
  intro f
  induction f with
  | zero =>
    intro k hk hd
    have e : ns.getD k [] = [] := (partsL_nil_iff _).1 (List.eq_nil_of_length_eq_zero (by unfold depthN at hd; omega))
    rw [root k hk e]; rfl
  | succ f ih =>
    intro k hk hd
    rw [pathF_succ]
    by_cases hc : ns.getD k [] = []
    · rw [if_pos hc, root k hk hc]; rfl
    · rw [if_neg hc, List.length_cons]
      have hdu := depth_up h0 hok hk hc
      have hu : upN ns k < ns.length := near_lt h0 _
      rw [ih (upN ns k) hu (by omega)]
      have hm : ns.getD k [] ∈ ns := getD_mem hk
      have hn := hok _ hm
      have hc1 : ns.countP (fun y => decide (y = ns.getD k [])) = 1 := by
        have : ns.countP (fun y => decide (y = ns.getD k [])) = ns.count (ns.getD k []) := by
          unfold List.count
          refine List.countP_congr fun y _ => ?_
          simp
        rw [this]
        rw [hnd.count, if_pos hm]
      rw [count_or (fun y => belowL (ns.getD k []) y) (fun y => decide (y = ns.getD k [])) (fun y => belowL (ns.getD (upN ns k) []) y) ns (fun y hy => ?_), hc1]
      · omega
      · have e2 : ns.getD (upN ns k) [] = ns.getD (nearN ns (aboveL (ns.getD k []))) [] := rfl
        by_cases he : y = ns.getD k []
        · refine ⟨?_, ?_⟩
          · rw [he]; simp [belowL_self]
          · rintro ⟨_, h2⟩
            rw [he, belowL_iff] at h2
            have := h2.length_le
            unfold depthN at hdu
            omega
        · refine ⟨?_, fun h => he (by simpa using h.1)⟩
          rw [e2, ← near_below h0 hy, below_above hn (fun e => he e.symm), decide_eq_false he]
          rfl
theorem pathF_head (ns : List Name) (f k : Nat) : (pathF ns f k)[0]? = some k := by
  cases f with
  | zero => rfl
  | succ f => rw [pathF_succ]; split <;> rfl
theorem path_step (ns : List Name) : ∀ (f k i b : Nat), (pathF ns f k)[i + 1]? = some b → ∃ a, (pathF ns f k)[i]? = some a ∧ ns.getD a [] ≠ [] ∧ b = upN ns a := by
  intro f
  induction f with
  | zero => intro k i b h; simp [pathF] at h
  | succ f ih =>
    intro k i b h
    rw [pathF_succ] at h ⊢
    by_cases hc : ns.getD k [] = []
    · rw [if_pos hc] at h; simp at h
    · rw [if_neg hc] at h ⊢
      cases i with
      | zero =>
        rw [List.getElem?_cons_succ, pathF_head] at h
        exact ⟨k, rfl, hc, (Option.some.inj h).symm⟩
      | succ i =>
        rw [List.getElem?_cons_succ] at h
        obtain ⟨a, h1, h2, h3⟩ := ih (upN ns k) i b h
        exact ⟨a, by rw [List.getElem?_cons_succ]; exact h1, h2, h3⟩
theorem path_last {ns : List Name} (h0 : ns[0]? = some []) (hok : ∀ z ∈ ns, nameOk z = true) : ∀ (f k : Nat), k < ns.length → depthN ns k ≤ f → ∃ r, (pathF ns f k)[(pathF ns f k).length - 1]? = some r ∧ ns.getD r [] = [] := by
  intro f
  induction f with
  | zero =>
    intro k hk hd
    exact ⟨k, rfl, (partsL_nil_iff _).1 (List.eq_nil_of_length_eq_zero (by unfold depthN at hd; omega))⟩
  | succ f ih =>
    intro k hk hd
    rw [pathF_succ]
    by_cases hc : ns.getD k [] = []
    · rw [if_pos hc]; exact ⟨k, rfl, hc⟩
    · rw [if_neg hc]
      have hdu := depth_up h0 hok hk hc
      obtain ⟨r, h1, h2⟩ := ih (upN ns k) (near_lt h0 _) (by omega)
      have := pathF_pos ns f (upN ns k)
      refine ⟨r, ?_, h2⟩
      rw [List.length_cons, Nat.add_sub_cancel]
      obtain ⟨m, hm⟩ : ∃ m, (pathF ns f (upN ns k)).length = m + 1 := ⟨_, (Nat.sub_add_cancel this).symm⟩
      rw [hm] at h1 ⊢
      rw [List.getElem?_cons_succ]
      simpa using h1
end Go.Proofs.Ytjejildgbmkbbaa
