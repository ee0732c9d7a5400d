/-
  E6, E10, E7, E8, E11, E9, E12, E15, E16 laid together.
-/
import Derived.Test.YtioegkcekbkblaaGreatE5
import Derived.Test.YtioegkcekbkblaaGreatLookI
import Derived.Test.YtioegkcekbkblaaGreatLookS
import Derived.Test.YtioegkcekbkblaaGreatUM
import Derived.Test.YtioegkcekbkblaaGreatCM
/-
  DRAWS of the laws over trees. By gen_e5.py.
-/
namespace Go.Proofs.YtioegkcekbkblaaGreat
open Go.RowKit Nm
set_option linter.unusedSimpArgs false
set_option linter.unusedVariables false
theorem IsRow.leT {k : IntKind} {w : World} {a : Option Addr} {len cap : Nat} {z : List Int} (h : IsRow k w a len cap z) : len ≤ 9223372036854775807 := by
  rcases h with ⟨_, h, _, _⟩ | ⟨x, _, h1, h2, _⟩
  · omega
  · unfold maxLen at h2; omega
theorem IsRow.belowT {k : IntKind} {w w' : World} {a : Option Addr} {len cap : Nat} {z : List Int} (h : IsRow k w a len cap z) (hb : Below w.heap.size w w') : IsRow k w' a len cap z := by
  rcases h with h | ⟨x, h0, h1, h2, h3, h4, h5⟩
  · exact .inl h
  · exact .inr ⟨x, h0, h1, h2, h3, fun i hi => (hb.cell (World.block_lt_of_cell? w _ (h4 i hi))).trans (h4 i hi), h5⟩

end Go.Proofs.YtioegkcekbkblaaGreat

/-
  DRAWS: a tree and the name of a handler. By gen_e10.py.
-/
namespace Go.Proofs.YtioegkcekbkblaaGreat
open Go.RowKit Nm
set_option linter.unusedSimpArgs false
set_option linter.unusedVariables false

def hWords : List (List UInt8) := [[104], [110, 111], [108, 97, 115, 116], []]
theorem cellOfH {w : World} {lo g n2 c2 j : Nat} {u : Value} {rs : List Row} {a b : List HndV} {x : HndV} (h : Rows w lo rs) (hm : hsRow n2 (.slice (some ⟨g, 0, none⟩) n2 c2) (a ++ x :: b) ∈ rs) (hj : j < 3) (hu : (hcells x)[j]? = some u) :
    w.cell? ⟨g, a.length * 3 + j, none⟩ = some u ∧ g < w.heap.size ∧ lo ≤ g := by
  have ho : w.ownsRow lo 47 3 (.slice (some ⟨g, 0, none⟩) n2 c2) n2 ((a ++ x :: b).flatMap hcells) := h.1 _ hm
  have hlen := Sl.count hcells_len (Sl.of_own ho) (by omega)
  simp only [List.length_append, List.length_cons] at hlen
  have hx : (a ++ x :: b)[a.length]? = some x := by simp
  have hc := ho.cellAt (a.length * 3 + j) (by omega)
  rw [flat_get hcells 3 hcells_len _ _ _ _ hx hj, hu] at hc
  exact ⟨hc, (ho.lt g rfl).2, (ho.lt g rfl).1⟩

end Go.Proofs.YtioegkcekbkblaaGreat

/-
  PLAIN: what the laws over trees ask of a valid tree; a tree cut.
-/
namespace Go.Proofs.YtioegkcekbkblaaGreat
open Go.RowKit Nm
set_option linter.unusedSimpArgs false
set_option linter.unusedVariables false

theorem tree_root0 {L : List Lgr} {H : List Hnd} {q : Int} (h : treeOk L H q = true) : idxL (namesOf L) [] = 0 :=
  idx_hit _ _ 0 (tree_names h).1 (by simp)
theorem tree_idx {L : List Lgr} {H : List Hnd} {q : Int} (h : treeOk L H q = true) {k : Nat} {x : Lgr} (hx : L[k]? = some x) : idxL (namesOf L) x.nm = k := by
  have h1 : (namesOf L)[k]? = some x.nm := by unfold namesOf; rw [List.getElem?_map, hx]; rfl
  exact idx_hit _ _ k h1 (fun hm => not_nodup _ k _ h1 hm (tree_names h).2.1)
theorem tree_first {L : List Lgr} {H : List Hnd} {q : Int} (h : treeOk L H q = true) : treeOk (L.take 1) H q = true := by
  unfold treeOk lgrsOk at h ⊢
  simp only [Bool.and_eq_true, decide_eq_true_eq, List.all_eq_true] at h ⊢
  obtain ⟨h1, h2, h3, h4, h5, h6, h7⟩ := h
  refine ⟨h1, h2, fun x hx => h3 x (List.mem_of_mem_take hx), ?_, ?_, ?_, ?_⟩
  · rw [List.map_take]; exact h4.sublist (List.take_sublist _ _)
  · rw [List.length_take]; omega
  · rw [List.length_take]; omega
  · rw [List.map_take, List.getElem?_take]; simpa using h7
theorem flat_take {α : Type} (f : α → List Value) (d : Nat) (hf : ∀ x, (f x).length = d) (l : List α) (k : Nat) : (l.flatMap f).take (k * d) = (l.take k).flatMap f := by
  induction l generalizing k with
  | nil => simp
  | cons a t ih =>
    cases k with
    | zero => simp
    | succ k => rw [List.flatMap_cons, List.take_succ_cons, List.flatMap_cons, List.take_append, hf, List.take_of_length_le (by rw [hf, Nat.add_mul]; omega), show (k + 1) * d - d = k * d by rw [Nat.add_mul]; omega, ih]
theorem Sl.cutN {w : World} {B n c d : Nat} {A : Option Addr} {xs : List Value} (h : Sl w B d n (.slice A n c) xs) {k : Nat} (hk : k ≤ n) : Sl w B d k (.slice A k c) (xs.take (k * d)) := by
  obtain ⟨hl, A', c', he, h2, h3, h4⟩ := h
  obtain ⟨rfl, rfl⟩ : A = A' ∧ c = c' := by simpa using he
  refine ⟨by rw [List.length_take, hl, Nat.min_eq_left (Nat.mul_le_mul_right d hk)], A, c, rfl, by omega, h3, fun hk0 => ?_⟩
  obtain ⟨b, o, e, hb, hc⟩ := h4 (by omega)
  refine ⟨b, o, e, hb, fun j u hu => hc j u ?_⟩
  rw [List.getElem?_take] at hu
  split at hu
  · exact hu
  · cases hu
/-- a tree's first loggers -/
theorem TreeIn.cut {w : World} {B n1 k1 n2 k2 : Nat} {A1 A2 : Option Addr} {L : List Lgr} {H : List Hnd} {q : Int} (h : TreeIn w B (.agg #[.slice A1 n1 k1, .slice A2 n2 k2, .int .i64 q]) L H q) {k : Nat} (hk : k ≤ n1) :
    TreeIn w B (.agg #[.slice A1 k k1, .slice A2 n2 k2, .int .i64 q]) (L.take k) H q := by
  obtain ⟨ls, hs, ⟨A1', n1', k1', A2', n2', k2', e, h1, h2, h3, h4, h5⟩, rfl, rfl⟩ := h
  simp at e
  obtain ⟨⟨rfl, rfl, rfl⟩, ⟨rfl, rfl, rfl⟩⟩ := e
  refine ⟨ls.take k, hs, ⟨A1, k, k1, A2, n2, k2, rfl, ⟨?_, fun x hx => h1.2 x (List.mem_of_mem_take hx)⟩, h2, by omega, h4, fun x hx => h5 x (List.mem_of_mem_take hx)⟩, by simp [lsOf], rfl⟩
  rw [← flat_take lcells 6 lcells_len]
  exact h1.1.cutN hk
/-- the name of logger k -/
theorem TreeIn.name {w : World} {B n1 k1 n2 k2 : Nat} {A1 A2 : Option Addr} {L : List Lgr} {H : List Hnd} {q : Int} (h : TreeIn w B (.agg #[.slice A1 n1 k1, .slice A2 n2 k2, .int .i64 q]) L H q) {k : Nat} (hk : k < n1) :
    ∃ (b o : Nat) (x : Lgr) (s : ByteArray), A1 = some ⟨b, o, none⟩ ∧ b < B ∧ L[k]? = some x ∧ s.data.toList = x.nm ∧ s.size ≤ maxTxt ∧ w.cell? ⟨b, o + k * 6, none⟩ = some (.string s) ∧ w.cell? ⟨b, o + k * 6 + 1, none⟩ = some (.int .i64 x.lv) := by
  obtain ⟨ls, hl, rfl⟩ := h.loggers
  obtain ⟨b, o, x, s, e, hb, hx, hs, hz, _, _, c0, c1, _⟩ := hl.at_ hk
  exact ⟨b, o, x.l, s, e, hb, by unfold lsOf; rw [List.getElem?_map, hx]; rfl, hs, hz, c0, c1⟩
/-- levels: what is enabled stays so -/
theorem enabled_up {L : List Lgr} {H : List Hnd} {q : Int} {x : Name} {lv : Int} (h : isEnabledT L H q x lv = true) : q < lv ∧ levelT L H q x ≤ lv ∧ 1 ≤ lv ∧ lv ≤ 60 ∧ (lv < 60 → isEnabledT L H q x (lv + 1) = true) := by
  unfold isEnabledT enabledT at h ⊢
  unfold levelT
  simp only [Bool.and_eq_true, decide_eq_true_eq, Bool.not_eq_true'] at h ⊢
  obtain ⟨h1, h2, h3, h4, h5⟩ := h
  rw [if_pos h1]
  exact ⟨h4, h5, h2.1, h2.2, fun hl => ⟨h1, ⟨by omega, by omega⟩, h3, by omega, by omega⟩⟩
theorem below_chain {x a b : Name} (ha : belowL x a = true) (hb : belowL x b = true) (hl : b.length ≤ a.length) : belowL a b = true := by
  have pa := belowL_pre ha
  have pb := belowL_pre hb
  have pab : b <+: a := List.prefix_of_prefix_length_le pb pa hl
  by_cases e : b = a
  · subst e; exact belowL_self _
  · rw [belowL_iff] at ha hb ⊢
    rcases Nat.le_total (partsL b).length (partsL a).length with h1 | h1
    · exact List.prefix_of_prefix_length_le hb ha h1
    · have h2 := List.prefix_of_prefix_length_le ha hb h1
      have h3 : belowL b a = true := by rw [belowL_iff]; exact h2
      have h4 := (belowL_pre h3).length_le
      have h5 := pab.eq_of_length (Nat.le_antisymm hl h4)
      exact absurd h5 e
theorem getD_mem {ns : List Name} {k : Nat} (h : k < ns.length) : ns.getD k [] ∈ ns := by
  have g : ns.getD k [] = ns[k] := by simp [List.getD, h]
  rw [g]; exact List.getElem_mem _
/-- the nearest logger of a name -/
theorem near_facts {L : List Lgr} {H : List Hnd} {q : Int} {x : Name} (h : treeOk L H q = true) (hx : nameOk x = true) :
    nameOk (nearestT L H q x) = true ∧ nearestT L H q x ∈ namesOf L ∧ belowL x (nearestT L H q x) = true ∧ (x ∈ namesOf L → nearestT L H q x = x) ∧ ∀ y ∈ namesOf L, belowL x y = true → belowL (nearestT L H q x) y = true := by
  obtain ⟨h0, hnd, hnm⟩ : (namesOf L)[0]? = some [] ∧ (namesOf L).Nodup ∧ ∀ z ∈ namesOf L, nameOk z = true := ⟨(tree_names h).1, (tree_names h).2.1, (tree_names h).2.2.1⟩
  have e : nearestT L H q x = (namesOf L).getD (nearN (namesOf L) x) [] := by unfold nearestT; rw [h, hx]; rfl
  have hlt := near_lt h0 x
  obtain ⟨b1, b2⟩ := best_spec h0 x (namesOf L).length (Nat.le_refl _)
  have hm : nearestT L H q x ∈ namesOf L := by rw [e]; exact getD_mem hlt
  refine ⟨hnm _ hm, hm, by rw [e]; exact b1, fun hin => ?_, fun y hy hb => ?_⟩
  · obtain ⟨i, hi, he⟩ := List.getElem_of_mem hin
    have hq : (namesOf L)[i]? = some x := by rw [List.getElem?_eq_getElem hi, he]
    rw [e, near_hit h0 hnd x i hq]
    simp [List.getD, hq]
  · obtain ⟨i, hi, he⟩ := List.getElem_of_mem hy
    have g : (namesOf L).getD i [] = y := by simp [List.getD, hi, he]
    rw [e]
    refine below_chain b1 hb ?_
    have := b2 i hi (by rw [g]; exact hb)
    rw [g] at this
    exact this
theorem levelF_succ (ns : List Name) (lv : Nat → Int) (f k : Nat) : levelF ns lv (f + 1) k = if lv k ≠ 0 ∨ ns.getD k [] = [] then lv k else levelF ns lv f (upN ns k) := rfl
theorem levelF_more {ns : List Name} (lv : Nat → Int) (h0 : ns[0]? = some []) (hok : ∀ z ∈ ns, nameOk z = true) : ∀ (f k : Nat), k < ns.length → depthN ns k ≤ f → levelF ns lv (f + 1) k = levelF ns lv f k := by
  intro f
  induction f with
  | zero =>
    intro k hk hd
    have : ns.getD k [] = [] := (partsL_nil_iff _).1 (List.eq_nil_of_length_eq_zero (by unfold depthN at hd; omega))
    rw [levelF_succ ns lv 0 k, if_pos (Or.inr this)]
    rfl
  | succ f ih =>
    intro k hk hd
    rw [levelF_succ ns lv (f + 1) k, levelF_succ ns lv f k]
    by_cases hc : lv k ≠ 0 ∨ ns.getD k [] = []
    · rw [if_pos hc, if_pos hc]
    · rw [if_neg hc, if_neg hc]
      have hne : ns.getD k [] ≠ [] := fun e => hc (Or.inr e)
      have := depth_up h0 hok hk hne
      exact ih (upN ns k) (near_lt h0 _) (by omega)
section
variable {L : List Lgr} {H : List Hnd} {q : Int} {k : Nat} {l : Lgr} {x : Name}
theorem tree_nm (h : treeOk L H q = true) : (nsOf L)[0]? = some [] ∧ (nsOf L).Nodup ∧ (∀ z ∈ nsOf L, nameOk z = true) := ⟨(tree_names h).1, (tree_names h).2.1, (tree_names h).2.2.1⟩
theorem ns_at (hl : L[k]? = some l) : (nsOf L)[k]? = some l.nm := by unfold nsOf; rw [List.getElem?_map, hl]; rfl
theorem lv_at (hl : L[k]? = some l) : lvAt L k = l.lv := by unfold lvAt; simp [List.getD, List.getElem?_map, hl]
theorem level_is (h : treeOk L H q = true) (hx : nameOk x = true) : levelT L H q x = levelF (nsOf L) (lvAt L) 4 (nearN (nsOf L) x) := by unfold levelT levelN; rw [h, hx]; rfl
theorem level_at (h : treeOk L H q = true) (hl : L[k]? = some l) : levelT L H q l.nm = levelF (nsOf L) (lvAt L) 4 k := by
  obtain ⟨h0, hnd, hnm⟩ := tree_nm h
  rw [level_is h (hnm _ (List.mem_of_getElem? (ns_at hl))), near_hit h0 hnd _ k (ns_at hl)]
theorem level_own (h : treeOk L H q = true) (hl : L[k]? = some l) (hp : 0 < l.lv) : levelT L H q l.nm = l.lv := by
  rw [level_at h hl, levelF, if_pos (Or.inl (by rw [lv_at hl]; omega)), lv_at hl]
theorem level_root (h : treeOk L H q = true) (hl : L[k]? = some l) (hz : l.lv = 0) (he : l.nm = []) : levelT L H q l.nm = 0 := by
  have g : (nsOf L).getD k [] = [] := by simp [List.getD, ns_at hl, he]
  rw [level_at h hl, levelF, if_pos (Or.inr g), lv_at hl, hz]
theorem level_up (h : treeOk L H q = true) (hl : L[k]? = some l) (hz : l.lv = 0) (hne : l.nm ≠ []) : parentB L H q l.nm = true ∧ levelT L H q (parentT L H q l.nm) = levelT L H q l.nm := by
  obtain ⟨h0, hnd, hnm⟩ := tree_nm h
  have hk := (List.getElem?_eq_some_iff.1 (ns_at hl)).1
  have hb : parentB L H q l.nm = true := by unfold parentB; rw [h]; simp [hne, List.mem_of_getElem? (ns_at hl)]
  refine ⟨hb, ?_⟩
  have g : (nsOf L).getD k [] = l.nm := by simp [List.getD, ns_at hl]
  have hu : upN (nsOf L) k < (nsOf L).length := near_lt h0 _
  have e1 : parentT L H q l.nm = (nsOf L).getD (upN (nsOf L) k) [] := by unfold parentT; rw [hb, if_pos rfl, near_hit h0 hnd _ k (ns_at hl)]
  have hq : (nsOf L)[upN (nsOf L) k]? = some ((nsOf L).getD (upN (nsOf L) k) []) := by rw [List.getElem?_eq_getElem hu]; simp [List.getD, hu]
  have hnn : nameOk ((nsOf L).getD (upN (nsOf L) k) []) = true := hnm _ (getD_mem hu)
  have hd := depth_up h0 hnm hk (by rw [g]; exact hne)
  have hd4 := depth_le hnm k
  rw [level_at h hl, e1, level_is h hnn, near_hit h0 hnd _ _ hq, levelF_more (lvAt L) h0 hnm 3 _ hu (by omega)]
  rw [show levelF (nsOf L) (lvAt L) 4 k = levelF (nsOf L) (lvAt L) 3 (upN (nsOf L) k) by
    rw [levelF, if_neg]
    rintro (h9 | h9)
    · exact h9 (by rw [lv_at hl, hz])
    · rw [g] at h9; exact hne h9]
theorem level_near (h : treeOk L H q = true) (hx : nameOk x = true) : levelT L H q (nearestT L H q x) = levelT L H q x := by
  obtain ⟨h0, hnd, hnm⟩ := tree_nm h
  have hlt := near_lt h0 x
  have e : nearestT L H q x = (nsOf L).getD (nearN (nsOf L) x) [] := by unfold nearestT; rw [h, hx]; rfl
  have hq : (nsOf L)[nearN (nsOf L) x]? = some (nearestT L H q x) := by rw [e, List.getElem?_eq_getElem hlt]; simp [List.getD, hlt]
  rw [level_is h hx, level_is h (hnm _ (List.mem_of_getElem? hq)), near_hit h0 hnd _ _ hq]
end
end Go.Proofs.YtioegkcekbkblaaGreat

/-
  PLAIN: paths and parents; laws.hasText.
-/
namespace Go.Proofs.YtioegkcekbkblaaGreat
open Go.RowKit Nm
set_option linter.unusedSimpArgs false
set_option linter.unusedVariables false

theorem pathF_succ (ns : List Name) (f k : Nat) : pathF ns (f + 1) k = if ns.getD k [] = [] then [k] else k :: pathF ns f (upN ns k) := rfl
theorem pathF_more {ns : List Name} (h0 : ns[0]? = some []) (hok : ∀ z ∈ ns, nameOk z = true) : ∀ (f k : Nat), k < ns.length → depthN ns k ≤ f → pathF ns (f + 1) k = pathF ns f k := by
  intro f
  induction f with
  | zero =>
    intro k hk hd
    have : ns.getD k [] = [] := (partsL_nil_iff _).1 (List.eq_nil_of_length_eq_zero (by unfold depthN at hd; omega))
    rw [pathF_succ ns 0 k, if_pos this]
    rfl
  | succ f ih =>
    intro k hk hd
    rw [pathF_succ ns (f + 1) k, pathF_succ ns f k]
    by_cases hc : ns.getD k [] = []
    · rw [if_pos hc, if_pos hc]
    · rw [if_neg hc, if_neg hc]
      have := depth_up h0 hok hk hc
      rw [ih (upN ns k) (near_lt h0 _) (by omega)]
theorem pathF_pos (ns : List Name) (f k : Nat) : 1 ≤ (pathF ns f k).length := by
  cases f with
  | zero => simp [pathF]
  | succ f => rw [pathF_succ]; split <;> simp
theorem ns_index {L : List Lgr} {x : Name} (hm : x ∈ nsOf L) : ∃ k, k < (nsOf L).length ∧ (nsOf L)[k]? = some x := by
  obtain ⟨k, hk, he⟩ := List.getElem_of_mem hm
  exact ⟨k, hk, by rw [List.getElem?_eq_getElem hk, he]⟩
/-- a logger's path: itself, and the path of its parent; it is a child of its parent -/
theorem parent_facts {L : List Lgr} {H : List Hnd} {q : Int} {x : Name} (hp : parentB L H q x = true) :
    pathT L H q x = x :: pathT L H q (parentT L H q x) ∧ x ∈ childrenT L H q (parentT L H q x) ∧ (parentT L H q x).length ≤ 100 ∧ 1 ≤ (pathT L H q (parentT L H q x)).length := by
  have hp0 := hp
  unfold parentB at hp
  simp only [Bool.and_eq_true, Bool.not_eq_true', decide_eq_false_iff_not, decide_eq_true_eq] at hp
  obtain ⟨h, hne, hm⟩ := hp
  obtain ⟨h0, hnd, hnm⟩ := tree_nm h
  obtain ⟨k, hk, hq⟩ := ns_index hm
  have g : (nsOf L).getD k [] = x := by simp [List.getD, hq]
  have hu : upN (nsOf L) k < (nsOf L).length := near_lt h0 _
  have e1 : parentT L H q x = (nsOf L).getD (upN (nsOf L) k) [] := by unfold parentT; rw [hp0, if_pos rfl, near_hit h0 hnd _ k hq]
  have hq2 : (nsOf L)[upN (nsOf L) k]? = some (parentT L H q x) := by rw [e1, List.getElem?_eq_getElem hu]; simp [List.getD, hu]
  have hnn : nameOk (parentT L H q x) = true := hnm _ (List.mem_of_getElem? hq2)
  have hd := depth_up h0 hnm hk (by rw [g]; exact hne)
  have hd4 := depth_le hnm k
  refine ⟨?_, ?_, ?_, ?_⟩
  · have hxn := hnm _ hm
    unfold pathT pathN
    rw [h, hxn, hnn, near_hit h0 hnd _ k hq, near_hit h0 hnd _ _ hq2, pathF_more h0 hnm 3 _ hu (by omega)]
    rw [show pathF (nsOf L) 4 k = k :: pathF (nsOf L) 3 (upN (nsOf L) k) by rw [pathF_succ _ 3 k, if_neg (by rw [g]; exact hne)]]
    simp [hq]
  · unfold childrenT
    rw [if_pos h]
    refine List.mem_filter.2 ⟨hm, ?_⟩
    unfold childOk
    have : upN (nsOf L) k = nearN (nsOf L) (aboveL x) := by unfold upN; rw [g]
    rw [← this, ← e1]
    simp [hne]
  · have := name_size _ hnn; omega
  · unfold pathT pathN
    rw [h, hnn, if_pos (by rfl), List.length_map]
    exact pathF_pos _ _ _

end Go.Proofs.YtioegkcekbkblaaGreat

/-
  LAWS OF USERS, plain: a logger is a user just if it has the handler. By gen_users.py.
-/
namespace Go.Proofs.YtioegkcekbkblaaGreat
open Go.RowKit Nm
set_option linter.unusedSimpArgs false
set_option linter.unusedVariables false

theorem pick_allU {α : Type} (l : List α) (p : α → Bool) (n : Nat) : rounds (pickIf l fun _ y => p y) n = (l.take n).filter p := by
  induction n with
  | zero => simp [rounds]
  | succ n ih =>
    rw [rounds_succ', ih, List.take_add_one, List.filter_append]
    congr 1
    unfold pickIf
    cases l[n]? with
    | none => rfl
    | some x => simp only [Option.toList]; by_cases hp : p x = true <;> simp [hp]
theorem usersN_eq (L : List Lgr) (x : Name) : usersN L x = (L.filter fun l => decide (x ∈ l.hs)).map (·.nm) := by
  unfold usersN usersK; rw [pick_allU, List.take_length]
theorem users_mem {L : List Lgr} {H : List Hnd} {q : Int} (h : treeOk L H q = true) (x : Name) {k : Nat} (hk : k < L.length) : decide (x ∈ hsAt L k) = decide ((nsOf L).getD k [] ∈ usersT L H q x) := by
  obtain ⟨_, hnd, _⟩ := tree_ns h
  have e : usersT L H q x = usersN L x := by unfold usersT; rw [h]; rfl
  rw [e, usersN_eq]
  obtain ⟨l, hl, hn, hh⟩ := lgr_some hk
  have hlen : (nsOf L).length = L.length := by unfold nsOf; rw [List.length_map]
  refine decide_eq_decide.2 ⟨fun hm => ?_, fun hm => ?_⟩
  · rw [← hn]
    exact List.mem_map.2 ⟨l, List.mem_filter.2 ⟨List.mem_of_getElem? hl, decide_eq_true (by rw [hh]; exact hm)⟩, rfl⟩
  · obtain ⟨l', hm', hn'⟩ := List.mem_map.1 hm
    obtain ⟨hm1, hm2⟩ := List.mem_filter.1 hm'
    obtain ⟨j, hj, ej⟩ := List.getElem_of_mem hm1
    have e2 : (nsOf L).getD j [] = (nsOf L).getD k [] := by rw [← hn']; unfold nsOf; simp [List.getD, hj, ej]
    have hjk := nodup_at hnd (by rw [hlen]; exact hj) (by rw [hlen]; exact hk) e2
    subst hjk
    have : l' = l := by rw [← ej]; rw [List.getElem?_eq_getElem hj] at hl; exact Option.some.inj hl
    subst this
    unfold hsAt
    rw [← hh]; exact of_decide_eq_true hm2
theorem users_le {L : List Lgr} {H : List Hnd} {q : Int} (h : treeOk L H q = true) (x : Name) : (usersT L H q x).length ≤ L.length := by
  unfold usersT; rw [h]; exact usersK_len L x L.length
end Go.Proofs.YtioegkcekbkblaaGreat

/-
  PLAIN: how many loggers are on a path, and in what order.
-/
namespace Go.Proofs.YtioegkcekbkblaaGreat
open Go.RowKit Nm
set_option linter.unusedSimpArgs false
set_option linter.unusedVariables false

theorem count_or {α : Type} (p q r : α → Bool) (l : List α) (h : ∀ y ∈ l, p y = (q y || r y) ∧ ¬ (q y = true ∧ r y = true)) : l.countP p = l.countP q + l.countP r := by
  induction l with
  | nil => rfl
  | cons a l ih =>
    have ih := ih (fun y hy => h y (List.mem_cons_of_mem _ hy))
    obtain ⟨h1, h2⟩ := h a (List.mem_cons_self ..)
    rw [List.countP_cons, List.countP_cons, List.countP_cons, ih, h1]
    cases hq : q a <;> cases hr : r a <;> simp_all <;> omega
theorem belowL_trans {x y z : Name} (h1 : belowL x y = true) (h2 : belowL y z = true) : belowL x z = true := by
  rw [belowL_iff] at *
  exact h2.trans h1
theorem near_below {ns : List Name} (h0 : ns[0]? = some []) {z y : Name} (hy : y ∈ ns) : belowL z y = belowL (ns.getD (nearN ns z) []) y := by
  obtain ⟨b1, b2⟩ := best_spec h0 z ns.length (Nat.le_refl _)
  rw [Bool.eq_iff_iff]
  constructor
  · intro h
    obtain ⟨i, hi, he⟩ := List.getElem_of_mem hy
    have g : ns.getD i [] = y := by simp [List.getD, hi, he]
    refine below_chain b1 h ?_
    have := b2 i hi (by rw [g]; exact h)
    rw [g] at this
    exact this
  · exact fun h => belowL_trans b1 h
theorem path_count {ns : List Name} (h0 : ns[0]? = some []) (hnd : ns.Nodup) (hok : ∀ z ∈ ns, nameOk z = true) :
    ∀ (f k : Nat), k < ns.length → depthN ns k ≤ f → (pathF ns f k).length = ns.countP (fun y => belowL (ns.getD k []) y) := by
  have root : ∀ k, k < ns.length → ns.getD k [] = [] → ns.countP (fun y => belowL (ns.getD k []) y) = 1 := by
    intro k hk e
    rw [e]
    have h1 : ns.countP (fun y => belowL [] y) = ns.count [] := by
      unfold List.count
      refine List.countP_congr fun y hy => ?_
      simp only [beq_iff_eq]
      constructor
      · intro h; exact List.eq_nil_of_length_eq_zero (Nat.le_zero.1 (belowL_pre h).length_le)
      · rintro rfl; exact belowL_self _
    rw [h1]
    rw [hnd.count, if_pos (List.mem_of_getElem? h0)]
  intro f
  induction f with
  | zero =>
    intro k hk hd
    have e : ns.getD k [] = [] := (partsL_nil_iff _).1 (List.eq_nil_of_length_eq_zero (by unfold depthN at hd; omega))
    rw [root k hk e]; rfl
  | succ f ih =>
    intro k hk hd
    rw [pathF_succ]
    by_cases hc : ns.getD k [] = []
    · rw [if_pos hc, root k hk hc]; rfl
    · rw [if_neg hc, List.length_cons]
      have hdu := depth_up h0 hok hk hc
      have hu : upN ns k < ns.length := near_lt h0 _
      rw [ih (upN ns k) hu (by omega)]
      have hm : ns.getD k [] ∈ ns := getD_mem hk
      have hn := hok _ hm
      have hc1 : ns.countP (fun y => decide (y = ns.getD k [])) = 1 := by
        have : ns.countP (fun y => decide (y = ns.getD k [])) = ns.count (ns.getD k []) := by
          unfold List.count
          refine List.countP_congr fun y _ => ?_
          simp
        rw [this]
        rw [hnd.count, if_pos hm]
      rw [count_or (fun y => belowL (ns.getD k []) y) (fun y => decide (y = ns.getD k [])) (fun y => belowL (ns.getD (upN ns k) []) y) ns (fun y hy => ?_), hc1]
      · omega
      · have e2 : ns.getD (upN ns k) [] = ns.getD (nearN ns (aboveL (ns.getD k []))) [] := rfl
        by_cases he : y = ns.getD k []
        · refine ⟨?_, ?_⟩
          · rw [he]; simp [belowL_self]
          · rintro ⟨_, h2⟩
            rw [he, belowL_iff] at h2
            have := h2.length_le
            unfold depthN at hdu
            omega
        · refine ⟨?_, fun h => he (by simpa using h.1)⟩
          rw [e2, ← near_below h0 hy, below_above hn (fun e => he e.symm), decide_eq_false he]
          rfl
theorem pathF_head (ns : List Name) (f k : Nat) : (pathF ns f k)[0]? = some k := by
  cases f with
  | zero => rfl
  | succ f => rw [pathF_succ]; split <;> rfl
theorem path_step (ns : List Name) : ∀ (f k i b : Nat), (pathF ns f k)[i + 1]? = some b → ∃ a, (pathF ns f k)[i]? = some a ∧ ns.getD a [] ≠ [] ∧ b = upN ns a := by
  intro f
  induction f with
  | zero => intro k i b h; simp [pathF] at h
  | succ f ih =>
    intro k i b h
    rw [pathF_succ] at h ⊢
    by_cases hc : ns.getD k [] = []
    · rw [if_pos hc] at h; simp at h
    · rw [if_neg hc] at h ⊢
      cases i with
      | zero =>
        rw [List.getElem?_cons_succ, pathF_head] at h
        exact ⟨k, rfl, hc, (Option.some.inj h).symm⟩
      | succ i =>
        rw [List.getElem?_cons_succ] at h
        obtain ⟨a, h1, h2, h3⟩ := ih (upN ns k) i b h
        exact ⟨a, by rw [List.getElem?_cons_succ]; exact h1, h2, h3⟩
theorem path_last {ns : List Name} (h0 : ns[0]? = some []) (hok : ∀ z ∈ ns, nameOk z = true) : ∀ (f k : Nat), k < ns.length → depthN ns k ≤ f → ∃ r, (pathF ns f k)[(pathF ns f k).length - 1]? = some r ∧ ns.getD r [] = [] := by
  intro f
  induction f with
  | zero =>
    intro k hk hd
    exact ⟨k, rfl, (partsL_nil_iff _).1 (List.eq_nil_of_length_eq_zero (by unfold depthN at hd; omega))⟩
  | succ f ih =>
    intro k hk hd
    rw [pathF_succ]
    by_cases hc : ns.getD k [] = []
    · rw [if_pos hc]; exact ⟨k, rfl, hc⟩
    · rw [if_neg hc]
      have hdu := depth_up h0 hok hk hc
      obtain ⟨r, h1, h2⟩ := ih (upN ns k) (near_lt h0 _) (by omega)
      have := pathF_pos ns f (upN ns k)
      refine ⟨r, ?_, h2⟩
      rw [List.length_cons, Nat.add_sub_cancel]
      obtain ⟨m, hm⟩ : ∃ m, (pathF ns f (upN ns k)).length = m + 1 := ⟨_, (Nat.sub_add_cancel this).symm⟩
      rw [hm] at h1 ⊢
      rw [List.getElem?_cons_succ]
      simpa using h1
end Go.Proofs.YtioegkcekbkblaaGreat

/-
  PLAIN: a branch is the logger and the branches of its children; the logger is on the path of each of the branch.
-/
namespace Go.Proofs.YtioegkcekbkblaaGreat
open Go.RowKit Nm
set_option linter.unusedSimpArgs false
set_option linter.unusedVariables false

def upName (ns : List Name) (y : Name) : Name := ns.getD (nearN ns (aboveL y)) []
theorem up_mem {ns : List Name} (h0 : ns[0]? = some []) (y : Name) : upName ns y ∈ ns := getD_mem (near_lt h0 _)
theorem up_below {ns : List Name} (h0 : ns[0]? = some []) {y z : Name} (hy : nameOk y = true) (hz : z ∈ ns) (hne : y ≠ z) : belowL y z = belowL (upName ns y) z := by
  rw [← below_above hy hne]; exact near_below h0 hz
theorem up_parts {ns : List Name} (h0 : ns[0]? = some []) (hok : ∀ z ∈ ns, nameOk z = true) {y : Name} (hy : y ∈ ns) (hne : y ≠ []) : (partsL (upName ns y)).length < (partsL y).length := by
  obtain ⟨k, hk, hq⟩ := List.getElem_of_mem hy
  have g : ns.getD k [] = y := by simp [List.getD, hk, hq]
  have h := depth_up h0 hok hk (by rw [g]; exact hne)
  have e1 : depthN ns k = (partsL y).length := by unfold depthN; rw [g]
  have e2 : depthN ns (upN ns k) = (partsL (upName ns y)).length := by unfold depthN upN upName; rw [g]
  rw [e1, e2] at h
  exact h
theorem childOk_iff {ns : List Name} {x c : Name} : childOk ns x c = true ↔ c ≠ [] ∧ upName ns c = x := by
  unfold childOk upName
  simp only [Bool.and_eq_true, Bool.not_eq_true', decide_eq_false_iff_not, decide_eq_true_eq]
theorem below_parts {a b : Name} (h : belowL a b = true) : (partsL b).length ≤ (partsL a).length := ((belowL_iff a b).1 h).length_le
theorem branch_step {ns : List Name} (h0 : ns[0]? = some []) (hnd : ns.Nodup) (hok : ∀ z ∈ ns, nameOk z = true) {x : Name} (hx : x ∈ ns) :
    ∀ (n : Nat) (y : Name), y ∈ ns → (partsL y).length ≤ n → (if belowL y x = true then 1 else 0) = (if y = x then 1 else 0) + ns.countP (fun c => childOk ns x c && belowL y c) := by
  intro n
  induction n with
  | zero =>
    intro y hy hn
    have e : y = [] := (partsL_nil_iff _).1 (List.eq_nil_of_length_eq_zero (by omega))
    subst e
    have e1 : ns.countP (fun c => childOk ns x c && belowL [] c) = 0 := by
      refine List.countP_eq_zero.2 fun c hc h => ?_
      simp only [Bool.and_eq_true] at h
      have h1 := (childOk_iff.1 h.1).1
      exact h1 (List.eq_nil_of_length_eq_zero (Nat.le_zero.1 (belowL_pre h.2).length_le))
    rw [e1]
    by_cases h : x = []
    · subst h; simp [belowL_self]
    · have h2 : belowL [] x = false := by
        cases hb : belowL [] x with
        | false => rfl
        | true => exact absurd (List.eq_nil_of_length_eq_zero (Nat.le_zero.1 (belowL_pre hb).length_le)) h
      rw [h2, if_neg (by decide), if_neg (fun e => h e.symm)]
  | succ n ih =>
    intro y hy hn
    by_cases hy0 : y = []
    · exact ih y hy (by rw [hy0]; have := (partsL_nil_iff ([] : Name)).2 rfl; rw [this]; simp)
    · have hu := up_parts h0 hok hy hy0
      have hum := up_mem h0 y
      have hyn := hok y hy
      by_cases hyx : y = x
      · subst hyx
        have e1 : ns.countP (fun c => childOk ns y c && belowL y c) = 0 := by
          refine List.countP_eq_zero.2 fun c hc h => ?_
          simp only [Bool.and_eq_true] at h
          obtain ⟨hc0, hcu⟩ := childOk_iff.1 h.1
          have h1 := up_parts h0 hok hc hc0
          rw [hcu] at h1
          have := below_parts h.2
          omega
        rw [e1, belowL_self]; simp
      · have IH := ih (upName ns y) hum (by omega)
        rw [up_below h0 hyn hx hyx, IH]
        rw [if_neg hyx, Nat.zero_add]
        have e2 := count_or (fun c => childOk ns x c && belowL y c) (fun c => decide (c = y) && decide (upName ns y = x)) (fun c => childOk ns x c && belowL (upName ns y) c) ns (fun c hc => ?_)
        · rw [e2]
          congr 1
          by_cases hux : upName ns y = x
          · rw [if_pos hux]
            have e3 : ns.countP (fun c => decide (c = y) && decide (upName ns y = x)) = ns.count y := by
              unfold List.count
              refine List.countP_congr fun c _ => ?_
              simp [hux]
            rw [e3, hnd.count, if_pos hy]
          · rw [if_neg hux]
            refine (List.countP_eq_zero.2 fun c hc h => ?_).symm
            simp [hux] at h
        · have huy : belowL (upName ns y) y = false := by
            cases hb : belowL (upName ns y) y with
            | false => rfl
            | true => have := below_parts hb; omega
          by_cases hcy : c = y
          · subst hcy
            have e4 : childOk ns x c = decide (upName ns c = x) := by
              unfold childOk upName
              rw [decide_eq_false hy0]; rfl
            rw [e4, huy, belowL_self]
            simp
          · rw [up_below h0 hyn hc (fun e => hcy e.symm)]
            rw [decide_eq_false hcy]
            simp
theorem sum_plusB {β : Type} (f g : β → Nat) (ys : List β) : (ys.map (fun y => f y + g y)).sum = (ys.map f).sum + (ys.map g).sum := by
  induction ys with
  | nil => rfl
  | cons a ys ih => simp only [List.map_cons, List.sum_cons, ih]; omega
theorem sum_indB {β : Type} (p : β → Bool) (ys : List β) : (ys.map (fun y => if p y = true then 1 else 0)).sum = ys.countP p := by
  induction ys with
  | nil => rfl
  | cons a ys ih => simp only [List.map_cons, List.sum_cons, ih, List.countP_cons]; omega
theorem sum_swapB {α β : Type} (c : α → β → Bool) (zs : List α) (ys : List β) : (zs.map (fun z => ys.countP (c z))).sum = (ys.map (fun y => zs.countP (fun z => c z y))).sum := by
  induction zs with
  | nil => induction ys with
    | nil => rfl
    | cons a ys ih => simpa using ih
  | cons z zs ih =>
    rw [List.map_cons, List.sum_cons, ih, ← sum_indB (c z) ys, ← sum_plusB]
    congr 1
    refine List.map_congr_left fun y _ => ?_
    rw [List.countP_cons]; omega
theorem sum_filter {α : Type} (p : α → Bool) (f : α → Nat) (l : List α) : ((l.filter p).map f).sum = (l.map (fun c => if p c = true then f c else 0)).sum := by
  induction l with
  | nil => rfl
  | cons a l ih =>
    rw [List.filter_cons]
    by_cases h : p a = true
    · rw [if_pos h]; simp only [List.map_cons, List.sum_cons, ih]; rw [if_pos h]
    · rw [if_neg h, ih]; simp only [List.map_cons, List.sum_cons]; rw [if_neg h, Nat.zero_add]
theorem branchT_ok {L : List Lgr} {H : List Hnd} {q : Int} {x : Name} (h : treeOk L H q = true) (hx : nameOk x = true) : branchT L H q x = (nsOf L).filter (fun y => belowL y x) := by
  unfold branchT; rw [h, hx]; rfl
theorem childrenT_ok {L : List Lgr} {H : List Hnd} {q : Int} {x : Name} (h : treeOk L H q = true) : childrenT L H q x = (nsOf L).filter (childOk (nsOf L) x) := by
  unfold childrenT; rw [h]; rfl
/-- a branch has as many loggers as the branches of the children, and one -/
theorem branch_sum {L : List Lgr} {H : List Hnd} {q : Int} {x : Name} (h : treeOk L H q = true) (hx : x ∈ nsOf L) : ((childrenT L H q x).map (fun c => (branchT L H q c).length)).sum + 1 = (branchT L H q x).length := by
  obtain ⟨h0, hnd, hnm⟩ := tree_nm h
  rw [branchT_ok h (hnm x hx), childrenT_ok h, ← List.countP_eq_length_filter]
  have e1 : ((nsOf L).filter (childOk (nsOf L) x)).map (fun c => (branchT L H q c).length) = ((nsOf L).filter (childOk (nsOf L) x)).map (fun c => (nsOf L).countP (fun y => belowL y c)) := by
    refine List.map_congr_left fun c hc => ?_
    rw [branchT_ok h (hnm c (List.mem_filter.1 hc).1), List.countP_eq_length_filter]
  rw [e1, sum_filter]
  have e2 : (nsOf L).map (fun c => if childOk (nsOf L) x c = true then (nsOf L).countP (fun y => belowL y c) else 0) = (nsOf L).map (fun c => (nsOf L).countP (fun y => childOk (nsOf L) x c && belowL y c)) := by
    refine List.map_congr_left fun c _ => ?_
    cases childOk (nsOf L) x c with
    | true => simp
    | false => simp
  have e9 : ((nsOf L).map (fun y => (nsOf L).countP (fun c => childOk (nsOf L) x c && belowL y c))).sum = ((nsOf L).map (fun c => (nsOf L).countP (fun y => childOk (nsOf L) x c && belowL y c))).sum :=
    (sum_swapB (fun c y => childOk (nsOf L) x c && belowL y c) (nsOf L) (nsOf L)).symm
  rw [e2]
  have e3 : (nsOf L).map (fun y => if belowL y x = true then 1 else 0) = (nsOf L).map (fun y => (if y = x then 1 else 0) + (nsOf L).countP (fun c => childOk (nsOf L) x c && belowL y c)) :=
    List.map_congr_left fun y hy => branch_step h0 hnd hnm hx _ y hy (Nat.le_refl _)
  have e4 := congrArg List.sum e3
  rw [sum_plusB, sum_indB (fun y => belowL y x)] at e4
  have e5 : ((nsOf L).map (fun y => if y = x then 1 else 0)).sum = 1 := by
    have e6 := sum_indB (fun y => decide (y = x)) (nsOf L)
    have e7 : (nsOf L).countP (fun y => decide (y = x)) = (nsOf L).count x := by
      unfold List.count
      refine List.countP_congr fun y _ => ?_
      simp
    rw [e7, hnd.count, if_pos hx] at e6
    refine Eq.trans ?_ e6
    congr 1
    refine List.map_congr_left fun y _ => ?_
    simp
  refine Eq.trans (congrArg (· + 1) e9.symm) ?_
  rw [e4, e5, Nat.add_comm]
theorem path_mem {ns : List Name} (h0 : ns[0]? = some []) (hok : ∀ z ∈ ns, nameOk z = true) :
    ∀ (f k : Nat), k < ns.length → depthN ns k ≤ f → ∀ z ∈ ns, belowL (ns.getD k []) z = true → z ∈ (pathF ns f k).map (fun i => ns.getD i []) := by
  intro f
  induction f with
  | zero =>
    intro k hk hd z hz hb
    have e : ns.getD k [] = [] := (partsL_nil_iff _).1 (List.eq_nil_of_length_eq_zero (by unfold depthN at hd; omega))
    rw [e] at hb
    have : z = [] := List.eq_nil_of_length_eq_zero (Nat.le_zero.1 (belowL_pre hb).length_le)
    subst this
    exact List.mem_map.2 ⟨k, by simp [pathF], e⟩
  | succ f ih =>
    intro k hk hd z hz hb
    rw [pathF_succ]
    by_cases hc : ns.getD k [] = []
    · rw [if_pos hc]
      rw [hc] at hb
      have : z = [] := List.eq_nil_of_length_eq_zero (Nat.le_zero.1 (belowL_pre hb).length_le)
      subst this
      exact List.mem_map.2 ⟨k, by simp, hc⟩
    · rw [if_neg hc, List.map_cons]
      by_cases hzk : z = ns.getD k []
      · rw [hzk]; exact List.mem_cons_self ..
      · refine List.mem_cons_of_mem _ (ih (upN ns k) (near_lt h0 _) (by have := depth_up h0 hok hk hc; omega) z hz ?_)
        have h := up_below h0 (hok _ (getD_mem hk)) hz (fun e => hzk e.symm)
        rw [hb] at h
        exact h.symm
/-- the logger is on the path of each of its branch -/
theorem branch_path {L : List Lgr} {H : List Hnd} {q : Int} {x y : Name} (h : treeOk L H q = true) (hx : x ∈ nsOf L) (hy : y ∈ branchT L H q x) : x ∈ pathT L H q y ∧ y.length ≤ 100 ∧ y ∈ nsOf L := by
  obtain ⟨h0, hnd, hnm⟩ := tree_nm h
  rw [branchT_ok h (hnm x hx)] at hy
  obtain ⟨hm, hb⟩ := List.mem_filter.1 hy
  have hlt := near_lt h0 y
  have e : pathT L H q y = (pathF (nsOf L) 4 (nearN (nsOf L) y)).map (fun i => (nsOf L).getD i []) := by unfold pathT pathN; rw [h, hnm y hm]; rfl
  refine ⟨?_, by have := name_size _ (hnm y hm); omega, hm⟩
  rw [e]
  refine path_mem h0 hnm 4 _ hlt (depth_le hnm _) x hx ?_
  rw [← near_below h0 hx]
  exact hb
theorem branch_none {L : List Lgr} {H : List Hnd} {q : Int} {x : Name} (hx : x ∉ nsOf L) : x ∉ branchT L H q x := by
  unfold branchT
  split
  · exact fun h => hx (List.mem_filter.1 h).1
  · simp
theorem child_in {L : List Lgr} {H : List Hnd} {q : Int} {x c : Name} (h : treeOk L H q = true) (hc : c ∈ childrenT L H q x) : c.length ≤ 100 := by
  obtain ⟨h0, hnd, hnm⟩ := tree_nm h
  rw [childrenT_ok h] at hc
  have := name_size _ (hnm c (List.mem_filter.1 hc).1)
  omega
end Go.Proofs.YtioegkcekbkblaaGreat

/-
  PLAIN: trees with one logger changed: what stays.
-/
namespace Go.Proofs.YtioegkcekbkblaaGreat
open Go.RowKit Nm
set_option linter.unusedSimpArgs false
set_option linter.unusedVariables false

theorem set_same {α : Type} {l : List α} {k : Nat} {a : α} (h : l[k]? = some a) : l.set k a = l := by
  refine List.ext_getElem? fun i => ?_
  rw [List.getElem?_set]
  split
  · rename_i hi
    subst hi
    obtain ⟨h1, h2⟩ := List.getElem?_eq_some_iff.1 h
    rw [if_pos h1, h]
  · rfl
theorem upd_at {L : List Lgr} {k : Nat} {l : Lgr} (h : L[k]? = some l) (f : Lgr → Lgr) : updL L k f = L.set k (f l) := by unfold updL; rw [h]
theorem map_upd {α : Type} (g : Lgr → α) {f : Lgr → Lgr} (hf : ∀ l, g (f l) = g l) (L : List Lgr) (k : Nat) : (updL L k f).map g = L.map g := by
  cases h : L[k]? with
  | none => unfold updL; rw [h]
  | some l =>
    rw [upd_at h, List.map_set, hf]
    exact set_same (by rw [List.getElem?_map, h]; rfl)
theorem upd_upd {L : List Lgr} {k : Nat} {l : Lgr} (h : L[k]? = some l) (f g : Lgr → Lgr) : updL (updL L k f) k g = L.set k (g (f l)) := by
  rw [upd_at h, upd_at (set_at h (f l)), List.set_set]
theorem ns_upd {f : Lgr → Lgr} (hf : ∀ l, (f l).nm = l.nm) (L : List Lgr) (k : Nat) : nsOf (updL L k f) = nsOf L := map_upd (·.nm) hf L k
theorem names_upd {f : Lgr → Lgr} (hf : ∀ l, (f l).nm = l.nm) (L : List Lgr) (k : Nat) : namesOf (updL L k f) = namesOf L := map_upd (·.nm) hf L k
theorem len_upd (f : Lgr → Lgr) (L : List Lgr) (k : Nat) : (updL L k f).length = L.length := by
  unfold updL; split
  · rw [List.length_set]
  · rfl
theorem lv_upd {f : Lgr → Lgr} (hf : ∀ l, (f l).lv = l.lv) (L : List Lgr) (k j : Nat) : lvAt (updL L k f) j = lvAt L j := by unfold lvAt; rw [map_upd (·.lv) hf]
theorem off_upd {f : Lgr → Lgr} (hf : ∀ l, (f l).off = l.off) (L : List Lgr) (k j : Nat) : offAt (updL L k f) j = offAt L j := by unfold offAt; rw [map_upd (·.off) hf]
theorem get_upd (f : Lgr → Lgr) (L : List Lgr) {k j : Nat} (hj : j ≠ k) : (updL L k f)[j]? = L[j]? := by
  unfold updL; split
  · rw [List.getElem?_set_ne (fun e => hj e.symm)]
  · rfl
theorem offAt_eq (L : List Lgr) (j : Nat) : offAt L j = ((L[j]?).map (·.off)).getD false := by unfold offAt; rw [List.getD_eq_getElem?_getD, List.getElem?_map]
theorem lvAt_eq (L : List Lgr) (j : Nat) : lvAt L j = ((L[j]?).map (·.lv)).getD 0 := by unfold lvAt; rw [List.getD_eq_getElem?_getD, List.getElem?_map]
theorem all_upd (p : Lgr → Bool) {f : Lgr → Lgr} (hf : ∀ l, p (f l) = p l) (L : List Lgr) (k : Nat) : (updL L k f).all p = L.all p := by
  have h := congrArg (fun l => l.all id) (map_upd p hf L k)
  simpa [List.all_map] using h
theorem treeOk_off (L : List Lgr) (H : List Hnd) (q : Int) (k : Nat) (b : Bool) : treeOk (updL L k (setOffF b)) H q = treeOk L H q := by
  unfold treeOk lgrsOk
  rw [all_upd (lgrOk H) (f := setOffF b) (fun _ => rfl) L k, map_upd (·.nm) (f := setOffF b) (fun _ => rfl) L k, len_upd]

/-- what a logger's change leads to: nothing, or the tree with it -/
theorem off_cases (L : List Lgr) (H : List Hnd) (q : Int) (s : Name) (b : Bool) : lgrX L H q s (setOffF b) = none ∨
    ∃ (k : Nat) (l : Lgr), L[k]? = some l ∧ l.nm = s ∧ treeOk L H q = true ∧ lgrX L H q s (setOffF b) = some (updL L k (setOffF b), H, q) ∧ lgrX (updL L k (setOffF b)) H q s (setOffF false) = some (updL L k (setOffF false), H, q) := by
  unfold lgrX changedO
  by_cases hneg : idxL (namesOf L) s < 0
  · exact .inl (by rw [if_pos hneg])
  · obtain ⟨k, hk⟩ : ∃ k : Nat, idxL (namesOf L) s = (k : Int) := ⟨_, (Int.toNat_of_nonneg (by omega)).symm⟩
    obtain ⟨hkl, hks⟩ := idx_nat hk
    cases h1 : treeOk L H q with
    | false => exact .inl (by rw [if_neg hneg]; simp)
    | true =>
      refine .inr ?_
      obtain ⟨l, hl⟩ : ∃ l, L[k]? = some l := ⟨_, List.getElem?_eq_getElem (by unfold namesOf at hkl; simpa using hkl)⟩
      have hn : l.nm = s := by unfold namesOf at hks; rw [List.getElem?_map, hl] at hks; exact Option.some.inj hks
      refine ⟨k, l, hl, hn, rfl, ?_, ?_⟩
      · rw [if_neg hneg, hk]
        simp only [Int.toNat_natCast, if_true, Option.bind_some]
        unfold ifOk
        rw [treeOk_off, h1]; rfl
      · rw [names_upd (f := setOffF b) (fun _ => rfl) L k, if_neg hneg, hk, treeOk_off, h1]
        simp only [Int.toNat_natCast, if_true, Option.bind_some]
        have e : updL (updL L k (setOffF b)) k (setOffF false) = updL L k (setOffF false) := by rw [upd_upd hl, upd_at hl]; rfl
        rw [e]
        unfold ifOk
        rw [treeOk_off, h1]; rfl
theorem off_same {L : List Lgr} {H : List Hnd} {q : Int} {k : Nat} {l : Lgr} (b : Bool) (h : treeOk L H q = true) (hl : L[k]? = some l) {x : Name} (hx : x ∈ nsOf L) (hne : ¬ x = l.nm) (lv : Int) :
    isEnabledT (updL L k (setOffF b)) H q x lv = isEnabledT L H q x lv := by
  obtain ⟨h0, hnd, _⟩ := tree_ns h
  obtain ⟨j, hj, ej⟩ := List.getElem_of_mem hx
  have hq : (nsOf L)[j]? = some x := by rw [List.getElem?_eq_getElem hj, ej]
  have hnear := near_hit h0 hnd x j hq
  have hjk : j ≠ k := by
    rintro rfl
    unfold nsOf at hq
    rw [List.getElem?_map, hl] at hq
    exact hne (Option.some.inj hq).symm
  have e1 : offT (updL L k (setOffF b)) x = offT L x := by
    unfold offT
    rw [ns_upd (f := setOffF b) (fun _ => rfl) L k, hnear, offAt_eq, offAt_eq, get_upd _ _ hjk]
  have e2 : levelN (nsOf (updL L k (setOffF b))) (lvAt (updL L k (setOffF b))) x = levelN (nsOf L) (lvAt L) x := by
    rw [ns_upd (f := setOffF b) (fun _ => rfl) L k, show lvAt (updL L k (setOffF b)) = lvAt L from funext fun j => lv_upd (f := setOffF b) (fun _ => rfl) L k j]
  unfold isEnabledT enabledT
  rw [treeOk_off, e1, e2]
theorem off_none {L : List Lgr} {H : List Hnd} {q : Int} {k : Nat} {l : Lgr} (h : treeOk L H q = true) (hl : L[k]? = some l) (lv : Int) :
    isEnabledT (updL L k (setOffF true)) H q l.nm lv = false := by
  obtain ⟨h0, hnd, _⟩ := tree_ns h
  have hq : (nsOf L)[k]? = some l.nm := by unfold nsOf; rw [List.getElem?_map, hl]; rfl
  have e1 : offT (updL L k (setOffF true)) l.nm = true := by
    unfold offT
    rw [ns_upd (f := setOffF true) (fun _ => rfl) L k, near_hit h0 hnd l.nm k hq, decide_eq_true (List.mem_of_getElem? hq), offAt_eq, upd_at hl, set_at hl]
    rfl
  unfold isEnabledT enabledT
  rw [e1]
  simp
end Go.Proofs.YtioegkcekbkblaaGreat

/-
  PLAIN: trees with the level of one logger changed.
-/
namespace Go.Proofs.YtioegkcekbkblaaGreat
open Go.RowKit Nm
set_option linter.unusedSimpArgs false
set_option linter.unusedVariables false

theorem lv_cases (L : List Lgr) (H : List Hnd) (q : Int) (s : Name) (a : Int) : lgrX L H q s (setLevelF a) = none ∨
    ∃ (k : Nat) (l : Lgr), L[k]? = some l ∧ l.nm = s ∧ idxL (namesOf L) s = (k : Int) ∧ treeOk L H q = true ∧ treeOk (updL L k (setLevelF a)) H q = true ∧ lgrX L H q s (setLevelF a) = some (updL L k (setLevelF a), H, q) ∧ lgrX (updL L k (setLevelF a)) H q s (setLevelF l.lv) = some (L, H, q) := by
  unfold lgrX changedO
  by_cases hneg : idxL (namesOf L) s < 0
  · exact .inl (by rw [if_pos hneg])
  · obtain ⟨k, hk⟩ : ∃ k : Nat, idxL (namesOf L) s = (k : Int) := ⟨_, (Int.toNat_of_nonneg (by omega)).symm⟩
    obtain ⟨hkl, hks⟩ := idx_nat hk
    cases h1 : treeOk L H q with
    | false => exact .inl (by rw [if_neg hneg]; simp)
    | true =>
      cases h2 : treeOk (updL L k (setLevelF a)) H q with
      | false =>
        refine .inl ?_
        rw [if_neg hneg, hk]
        simp only [Int.toNat_natCast, if_true, Option.bind_some]
        unfold ifOk
        rw [h2]; rfl
      | true =>
        refine .inr ?_
        obtain ⟨l, hl⟩ : ∃ l, L[k]? = some l := ⟨_, List.getElem?_eq_getElem (by unfold namesOf at hkl; simpa using hkl)⟩
        have hn : l.nm = s := by unfold namesOf at hks; rw [List.getElem?_map, hl] at hks; exact Option.some.inj hks
        refine ⟨k, l, hl, hn, hk, rfl, h2, ?_, ?_⟩
        · rw [if_neg hneg, hk]
          simp only [Int.toNat_natCast, if_true, Option.bind_some]
          unfold ifOk
          rw [h2]; rfl
        · rw [names_upd (f := setLevelF a) (fun _ => rfl) L k, if_neg hneg, hk, h2]
          simp only [Int.toNat_natCast, if_true, Option.bind_some]
          have e : updL (updL L k (setLevelF a)) k (setLevelF l.lv) = L := by rw [upd_upd hl]; exact set_same hl
          rw [e]
          unfold ifOk
          rw [h1]; rfl
theorem lvAt_other {L : List Lgr} {k j : Nat} (a : Int) (hj : j ≠ k) : lvAt (updL L k (setLevelF a)) j = lvAt L j := by rw [lvAt_eq, lvAt_eq, get_upd _ _ hj]
theorem lvAt_here {L : List Lgr} {k : Nat} {l : Lgr} (a : Int) (hl : L[k]? = some l) : lvAt (updL L k (setLevelF a)) k = a := by rw [lvAt_eq, upd_at hl, set_at hl]; rfl
theorem below_up {ns : List Name} (h0 : ns[0]? = some []) (hok : ∀ z ∈ ns, nameOk z = true) {y : Name} (hy : y ∈ ns) (hne : y ≠ []) : belowL y (upName ns y) = true := by
  have h1 := up_parts h0 hok hy hne
  have h2 : y ≠ upName ns y := fun e => by rw [← e] at h1; omega
  rw [up_below h0 (hok y hy) (up_mem h0 y) h2]
  exact belowL_self _
theorem levelF_same {ns : List Name} {lv lv' : Nat → Int} (h0 : ns[0]? = some []) (hok : ∀ z ∈ ns, nameOk z = true) {k : Nat} (hl : ∀ j, j ≠ k → lv' j = lv j) :
    ∀ (f j : Nat), j < ns.length → belowL (ns.getD j []) (ns.getD k []) = false → levelF ns lv' f j = levelF ns lv f j := by
  intro f
  induction f with
  | zero =>
    intro j hj hb
    have hjk : j ≠ k := fun e => by rw [e, belowL_self] at hb; cases hb
    exact hl j hjk
  | succ f ih =>
    intro j hj hb
    have hjk : j ≠ k := fun e => by rw [e, belowL_self] at hb; cases hb
    unfold levelF
    rw [hl j hjk]
    split
    · rfl
    · rename_i hc
      have hne : ns.getD j [] ≠ [] := fun e => hc (.inr e)
      refine ih (upN ns j) (near_lt h0 _) ?_
      cases hb2 : belowL (ns.getD (upN ns j) []) (ns.getD k []) with
      | false => rfl
      | true =>
        have h1 : belowL (ns.getD j []) (ns.getD (upN ns j) []) = true := below_up h0 hok (getD_mem hj) hne
        rw [belowL_trans h1 hb2] at hb; cases hb
theorem lv_same {L : List Lgr} {H : List Hnd} {q : Int} {k : Nat} {l : Lgr} (a : Int) (h : treeOk L H q = true) (h' : treeOk (updL L k (setLevelF a)) H q = true) (hl : L[k]? = some l) {x : Name} (hx : x ∈ nsOf L) (hb : isB x l.nm = false) :
    levelT (updL L k (setLevelF a)) H q x = levelT L H q x := by
  obtain ⟨h0, hnd, hnm⟩ := tree_nm h
  obtain ⟨j, hj, ej⟩ := List.getElem_of_mem hx
  have hq : (nsOf L)[j]? = some x := by rw [List.getElem?_eq_getElem hj, ej]
  have hk : (nsOf L)[k]? = some l.nm := by unfold nsOf; rw [List.getElem?_map, hl]; rfl
  have gj : (nsOf L).getD j [] = x := by simp [List.getD, hq]
  have gk : (nsOf L).getD k [] = l.nm := by simp [List.getD, hk]
  have hb2 : belowL x l.nm = false := by
    unfold isB at hb
    rw [hnm x hx, hnm _ (List.mem_of_getElem? hk)] at hb
    simpa using hb
  unfold levelT
  rw [h, h', hnm x hx]
  simp only [Bool.and_self, if_true]
  unfold levelN
  rw [ns_upd (f := setLevelF a) (fun _ => rfl) L k, near_hit h0 hnd x j hq]
  exact levelF_same h0 hnm (fun i hi => lvAt_other a hi) 4 j hj (by rw [gj, gk]; exact hb2)
theorem lv_set {L : List Lgr} {H : List Hnd} {q : Int} {k : Nat} {l : Lgr} {a : Int} (h : treeOk L H q = true) (h' : treeOk (updL L k (setLevelF a)) H q = true) (hl : L[k]? = some l) (ha : ¬ a = 0) :
    levelT (updL L k (setLevelF a)) H q l.nm = a := by
  obtain ⟨h0, hnd, hnm⟩ := tree_nm h
  have hk : (nsOf L)[k]? = some l.nm := by unfold nsOf; rw [List.getElem?_map, hl]; rfl
  unfold levelT
  rw [h', hnm _ (List.mem_of_getElem? hk)]
  simp only [Bool.and_self, if_true]
  unfold levelN
  rw [ns_upd (f := setLevelF a) (fun _ => rfl) L k, near_hit h0 hnd l.nm k hk]
  have hh := lvAt_here a hl
  unfold levelF
  rw [hh, if_pos (.inl ha)]
theorem isB_names {L : List Lgr} {H : List Hnd} {q : Int} {k : Nat} {l : Lgr} (h : treeOk L H q = true) (hl : L[k]? = some l) : nameOk l.nm = true := (tree_nm h).2.2 _ (List.mem_map.2 ⟨l, List.mem_of_getElem? hl, rfl⟩)
end Go.Proofs.YtioegkcekbkblaaGreat
