/-
  PLAIN: what the laws over trees ask of a valid tree; a tree cut.
-/
import Derived.Test.YtjejildgbmkbbaaE6
import Derived.Test.YtjejildgbmkbbaaLookI
import Derived.Test.YtjejildgbmkbbaaLookS
namespace Go.Proofs.Ytjejildgbmkbbaa
open Go.RowKit Nm
set_option linter.unusedSimpArgs false
set_option linter.unusedVariables false

theorem tree_root0 {L : List Lgr} {H : List Hnd} {q : Int} (h : treeOk L H q = true) : idxL (namesOf L) [] = 0 :=
  idx_hit _ _ 0 (tree_names h).1 (by simp)
theorem tree_idx {L : List Lgr} {H : List Hnd} {q : Int} (h : treeOk L H q = true) {k : Nat} {x : Lgr} (hx : L[k]? = some x) : idxL (namesOf L) x.nm = k := by
  have h1 : (namesOf L)[k]? = some x.nm := by unfold namesOf; rw [List.getElem?_map, hx]; rfl
  exact idx_hit _ _ k h1 (fun hm => not_nodup _ k _ h1 hm (tree_names h).2.1)
theorem tree_first {L : List Lgr} {H : List Hnd} {q : Int} (h : treeOk L H q = true) : treeOk (L.take 1) H q = true := by
  unfold treeOk lgrsOk at h ⊢
  simp only [Bool.and_eq_true, decide_eq_true_eq, List.all_eq_true] at h ⊢
  obtain ⟨h1, h2, h3, h4, h5, h6, h7⟩ := h
  refine ⟨h1, h2, fun x hx => h3 x (List.mem_of_mem_take hx), ?_, ?_, ?_, ?_⟩
  · rw [List.map_take]; exact h4.sublist (List.take_sublist _ _)
  · rw [List.length_take]; omega
  · rw [List.length_take]; omega
  · rw [List.map_take, List.getElem?_take]; simpa using h7
theorem flat_take {α : Type} (f : α → List Value) (d : Nat) (hf : ∀ x, (f x).length = d) (l : List α) (k : Nat) : (l.flatMap f).take (k * d) = (l.take k).flatMap f := by
  induction l generalizing k with
  | nil => simp
  | cons a t ih =>
    cases k with
    | zero => simp
    | succ k => rw [List.flatMap_cons, List.take_succ_cons, List.flatMap_cons, List.take_append, hf, List.take_of_length_le (by rw [hf, Nat.add_mul]; omega), show (k + 1) * d - d = k * d by rw [Nat.add_mul]; omega, ih]
theorem Sl.cutN {w : World} {B n c d : Nat} {A : Option Addr} {xs : List Value} (h : Sl w B d n (.slice A n c) xs) {k : Nat} (hk : k ≤ n) : Sl w B d k (.slice A k c) (xs.take (k * d)) := by
  obtain ⟨hl, A', c', he, h2, h3, h4⟩ := h
  obtain ⟨rfl, rfl⟩ : A = A' ∧ c = c' := by simpa using he
  refine ⟨by rw [List.length_take, hl, Nat.min_eq_left (Nat.mul_le_mul_right d hk)], A, c, rfl, by omega, h3, fun hk0 => ?_⟩
  obtain ⟨b, o, e, hb, hc⟩ := h4 (by omega)
  refine ⟨b, o, e, hb, fun j u hu => hc j u ?_⟩
  rw [List.getElem?_take] at hu
  split at hu
  · exact hu
  · cases hu
/-- a tree's first loggers -/
theorem TreeIn.cut {w : World} {B n1 k1 n2 k2 : Nat} {A1 A2 : Option Addr} {L : List Lgr} {H : List Hnd} {q : Int} (h : TreeIn w B (.agg #[.slice A1 n1 k1, .slice A2 n2 k2, .int .i64 q]) L H q) {k : Nat} (hk : k ≤ n1) :
    TreeIn w B (.agg #[.slice A1 k k1, .slice A2 n2 k2, .int .i64 q]) (L.take k) H q := by
  obtain ⟨ls, hs, ⟨A1', n1', k1', A2', n2', k2', e, h1, h2, h3, h4, h5⟩, rfl, rfl⟩ := h
  simp at e
  obtain ⟨⟨rfl, rfl, rfl⟩, ⟨rfl, rfl, rfl⟩⟩ := e
  refine ⟨ls.take k, hs, ⟨A1, k, k1, A2, n2, k2, rfl, ⟨?_, fun x hx => h1.2 x (List.mem_of_mem_take hx)⟩, h2, by omega, h4, fun x hx => h5 x (List.mem_of_mem_take hx)⟩, by simp [lsOf], rfl⟩
  rw [← flat_take lcells 6 lcells_len]
  exact h1.1.cutN hk
/-- the name of logger k -/
theorem TreeIn.name {w : World} {B n1 k1 n2 k2 : Nat} {A1 A2 : Option Addr} {L : List Lgr} {H : List Hnd} {q : Int} (h : TreeIn w B (.agg #[.slice A1 n1 k1, .slice A2 n2 k2, .int .i64 q]) L H q) {k : Nat} (hk : k < n1) :
    ∃ (b o : Nat) (x : Lgr) (s : ByteArray), A1 = some ⟨b, o, none⟩ ∧ b < B ∧ L[k]? = some x ∧ s.data.toList = x.nm ∧ s.size ≤ maxTxt ∧ w.cell? ⟨b, o + k * 6, none⟩ = some (.string s) ∧ w.cell? ⟨b, o + k * 6 + 1, none⟩ = some (.int .i64 x.lv) := by
  obtain ⟨ls, hl, rfl⟩ := h.loggers
  obtain ⟨b, o, x, s, e, hb, hx, hs, hz, _, _, c0, c1, _⟩ := hl.at_ hk
  exact ⟨b, o, x.l, s, e, hb, by unfold lsOf; rw [List.getElem?_map, hx]; rfl, hs, hz, c0, c1⟩
/-- levels: what is enabled stays so -/
theorem enabled_up {L : List Lgr} {H : List Hnd} {q : Int} {x : Name} {lv : Int} (h : isEnabledT L H q x lv = true) : q < lv ∧ levelT L H q x ≤ lv ∧ 1 ≤ lv ∧ lv ≤ 60 ∧ (lv < 60 → isEnabledT L H q x (lv + 1) = true) := by
  unfold isEnabledT enabledT at h ⊢
  unfold levelT
  simp only [Bool.and_eq_true, decide_eq_true_eq, Bool.not_eq_true'] at h ⊢
  obtain ⟨h1, h2, h3, h4, h5⟩ := h
  rw [if_pos h1]
  exact ⟨h4, h5, h2.1, h2.2, fun hl => ⟨h1, ⟨by omega, by omega⟩, h3, by omega, by omega⟩⟩
theorem below_chain {x a b : Name} (ha : belowL x a = true) (hb : belowL x b = true) (hl : b.length ≤ a.length) : belowL a b = true := by
  have pa := belowL_pre ha
  have pb := belowL_pre hb
  have pab : b <+: a := List.prefix_of_prefix_length_le pb pa hl
  by_cases e : b = a
  · subst e; exact belowL_self _
  · rw [belowL_iff] at ha hb ⊢
    rcases Nat.le_total (partsL b).length (partsL a).length with h1 | h1
    · exact List.prefix_of_prefix_length_le hb ha h1
    · have h2 := List.prefix_of_prefix_length_le ha hb h1
      have h3 : belowL b a = true := by rw [belowL_iff]; exact h2
      have h4 := (belowL_pre h3).length_le
      have h5 := pab.eq_of_length (Nat.le_antisymm hl h4)
      exact absurd h5 e
theorem getD_mem {ns : List Name} {k : Nat} (h : k < ns.length) : ns.getD k [] ∈ ns := by
  have g : ns.getD k [] = ns[k] := by simp [List.getD, h]
  rw [g]; exact List.getElem_mem _
/-- the nearest logger of a name -/
theorem near_facts {L : List Lgr} {H : List Hnd} {q : Int} {x : Name} (h : treeOk L H q = true) (hx : nameOk x = true) :
    nameOk (nearestT L H q x) = true ∧ nearestT L H q x ∈ namesOf L ∧ belowL x (nearestT L H q x) = true ∧ (x ∈ namesOf L → nearestT L H q x = x) ∧ ∀ y ∈ namesOf L, belowL x y = true → belowL (nearestT L H q x) y = true := by
  obtain ⟨h0, hnd, hnm⟩ : (namesOf L)[0]? = some [] ∧ (namesOf L).Nodup ∧ ∀ z ∈ namesOf L, nameOk z = true := ⟨(tree_names h).1, (tree_names h).2.1, (tree_names h).2.2.1⟩
  have e : nearestT L H q x = (namesOf L).getD (nearN (namesOf L) x) [] := by unfold nearestT; rw [h, hx]; rfl
  have hlt := near_lt h0 x
  obtain ⟨b1, b2⟩ := best_spec h0 x (namesOf L).length (Nat.le_refl _)
  have hm : nearestT L H q x ∈ namesOf L := by rw [e]; exact getD_mem hlt
  refine ⟨hnm _ hm, hm, by rw [e]; exact b1, fun hin => ?_, fun y hy hb => ?_⟩
  · obtain ⟨i, hi, he⟩ := List.getElem_of_mem hin
    have hq : (namesOf L)[i]? = some x := by rw [List.getElem?_eq_getElem hi, he]
    rw [e, near_hit h0 hnd x i hq]
    simp [List.getD, hq]
  · obtain ⟨i, hi, he⟩ := List.getElem_of_mem hy
    have g : (namesOf L).getD i [] = y := by simp [List.getD, hi, he]
    rw [e]
    refine below_chain b1 hb ?_
    have := b2 i hi (by rw [g]; exact hb)
    rw [g] at this
    exact this
theorem levelF_succ (ns : List Name) (lv : Nat → Int) (f k : Nat) : levelF ns lv (f + 1) k = if lv k ≠ 0 ∨ ns.getD k [] = [] then lv k else levelF ns lv f (upN ns k) := rfl
theorem levelF_more {ns : List Name} (lv : Nat → Int) (h0 : ns[0]? = some []) (hok : ∀ z ∈ ns, nameOk z = true) : ∀ (f k : Nat), k < ns.length → depthN ns k ≤ f → levelF ns lv (f + 1) k = levelF ns lv f k := by
  intro f
  induction f with
  | zero =>
    intro k hk hd
    have : ns.getD k [] = [] := (partsL_nil_iff _).1 (List.eq_nil_of_length_eq_zero (by unfold depthN at hd; omega))
    rw [levelF_succ ns lv 0 k, if_pos (Or.inr this)]
    rfl
  | succ f ih =>
    intro k hk hd
    rw [levelF_succ ns lv (f + 1) k, levelF_succ ns lv f k]
    by_cases hc : lv k ≠ 0 ∨ ns.getD k [] = []
    · rw [if_pos hc, if_pos hc]
    · rw [if_neg hc, if_neg hc]
      have hne : ns.getD k [] ≠ [] := fun e => hc (Or.inr e)
      have := depth_up h0 hok hk hne
      exact ih (upN ns k) (near_lt h0 _) (by omega)
section
variable {L : List Lgr} {H : List Hnd} {q : Int} {k : Nat} {l : Lgr} {x : Name}
theorem tree_nm (h : treeOk L H q = true) : (nsOf L)[0]? = some [] ∧ (nsOf L).Nodup ∧ (∀ z ∈ nsOf L, nameOk z = true) := ⟨(tree_names h).1, (tree_names h).2.1, (tree_names h).2.2.1⟩
theorem ns_at (hl : L[k]? = some l) : (nsOf L)[k]? = some l.nm := by unfold nsOf; rw [List.getElem?_map, hl]; rfl
theorem lv_at (hl : L[k]? = some l) : lvAt L k = l.lv := by unfold lvAt; simp [List.getD, List.getElem?_map, hl]
theorem level_is (h : treeOk L H q = true) (hx : nameOk x = true) : levelT L H q x = levelF (nsOf L) (lvAt L) 4 (nearN (nsOf L) x) := by unfold levelT levelN; rw [h, hx]; rfl
theorem level_at (h : treeOk L H q = true) (hl : L[k]? = some l) : levelT L H q l.nm = levelF (nsOf L) (lvAt L) 4 k := by
  obtain ⟨h0, hnd, hnm⟩ := tree_nm h
  rw [level_is h (hnm _ (List.mem_of_getElem? (ns_at hl))), near_hit h0 hnd _ k (ns_at hl)]
theorem level_own (h : treeOk L H q = true) (hl : L[k]? = some l) (hp : 0 < l.lv) : levelT L H q l.nm = l.lv := by
  rw [level_at h hl, levelF, if_pos (Or.inl (by rw [lv_at hl]; omega)), lv_at hl]
theorem level_root (h : treeOk L H q = true) (hl : L[k]? = some l) (hz : l.lv = 0) (he : l.nm = []) : levelT L H q l.nm = 0 := by
  have g : (nsOf L).getD k [] = [] := by simp [List.getD, ns_at hl, he]
  rw [level_at h hl, levelF, if_pos (Or.inr g), lv_at hl, hz]
theorem level_up (h : treeOk L H q = true) (hl : L[k]? = some l) (hz : l.lv = 0) (hne : l.nm ≠ []) : parentB L H q l.nm = true ∧ levelT L H q (parentT L H q l.nm) = levelT L H q l.nm := by
  obtain ⟨h0, hnd, hnm⟩ := tree_nm h
  have hk := (List.getElem?_eq_some_iff.1 (ns_at hl)).1
  have hb : parentB L H q l.nm = true := by unfold parentB; rw [h]; simp [hne, List.mem_of_getElem? (ns_at hl)]
  refine ⟨hb, ?_⟩
  have g : (nsOf L).getD k [] = l.nm := by simp [List.getD, ns_at hl]
  have hu : upN (nsOf L) k < (nsOf L).length := near_lt h0 _
  have e1 : parentT L H q l.nm = (nsOf L).getD (upN (nsOf L) k) [] := by unfold parentT; rw [hb, if_pos rfl, near_hit h0 hnd _ k (ns_at hl)]
  have hq : (nsOf L)[upN (nsOf L) k]? = some ((nsOf L).getD (upN (nsOf L) k) []) := by rw [List.getElem?_eq_getElem hu]; simp [List.getD, hu]
  have hnn : nameOk ((nsOf L).getD (upN (nsOf L) k) []) = true := hnm _ (getD_mem hu)
  have hd := depth_up h0 hnm hk (by rw [g]; exact hne)
  have hd4 := depth_le hnm k
  rw [level_at h hl, e1, level_is h hnn, near_hit h0 hnd _ _ hq, levelF_more (lvAt L) h0 hnm 3 _ hu (by omega)]
  rw [show levelF (nsOf L) (lvAt L) 4 k = levelF (nsOf L) (lvAt L) 3 (upN (nsOf L) k) by
    rw [levelF, if_neg]
    rintro (h9 | h9)
    · exact h9 (by rw [lv_at hl, hz])
    · rw [g] at h9; exact hne h9]
theorem level_near (h : treeOk L H q = true) (hx : nameOk x = true) : levelT L H q (nearestT L H q x) = levelT L H q x := by
  obtain ⟨h0, hnd, hnm⟩ := tree_nm h
  have hlt := near_lt h0 x
  have e : nearestT L H q x = (nsOf L).getD (nearN (nsOf L) x) [] := by unfold nearestT; rw [h, hx]; rfl
  have hq : (nsOf L)[nearN (nsOf L) x]? = some (nearestT L H q x) := by rw [e, List.getElem?_eq_getElem hlt]; simp [List.getD, hlt]
  rw [level_is h hx, level_is h (hnm _ (List.mem_of_getElem? hq)), near_hit h0 hnd _ _ hq]
end
end Go.Proofs.Ytjejildgbmkbbaa
