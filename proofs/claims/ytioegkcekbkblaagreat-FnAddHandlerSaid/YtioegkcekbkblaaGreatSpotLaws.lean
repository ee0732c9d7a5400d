/-
  E20, E21, E22, E23, E24 laid together.
-/
import Derived.Test.YtioegkcekbkblaaGreatGM
import Derived.Test.YtioegkcekbkblaaGreatEM
import Derived.Test.YtioegkcekbkblaaGreatUM
import Derived.Deep.MidRow
import Derived.Test.YtioegkcekbkblaaGreatCM
/-
  LAWS OF SPOTS: lists of spots compared; spots and users, plain.
-/
namespace Go.Proofs.YtioegkcekbkblaaGreat
open Go.RowKit Nm
set_option linter.unusedSimpArgs false
set_option linter.unusedVariables false

variable {L : List Lgr} {H : List Hnd} {q : Int} {x : Name}
theorem spots_ok (h : treeOk L H q = true) (hx : nameOk x = true) : spotsT L H q x = spotsI L (pathN (nsOf L) x) := by unfold spotsT; rw [h, hx]; rfl
theorem path_ok (h : treeOk L H q = true) (hx : nameOk x = true) : pathT L H q x = (pathN (nsOf L) x).map (fun i => (nsOf L).getD i []) := by unfold pathT; rw [h, hx]; rfl
theorem path_facts (h : treeOk L H q = true) (hx : nameOk x = true) :
    pathT L H q x = (pathN (nsOf L) x).map (fun i => (nsOf L).getD i []) ∧ spotsT L H q x = spotsI L (pathN (nsOf L) x) ∧ (pathN (nsOf L) x).length ≤ 5 ∧ ∀ i ∈ pathN (nsOf L) x, i < L.length := by
  refine ⟨path_ok h hx, spots_ok h hx, pathF_len _ _ _, ?_⟩
  have h9 : (nsOf L).length = L.length := by unfold nsOf; rw [List.length_map]
  rw [← h9]; exact pathF_lt (tree_nm h).1 _ _ (near_lt (tree_nm h).1 _)
theorem used_eq (h : treeOk L H q = true) : usedT L H q = (H.filter fun y => decide (0 < (usersN L y.nm).length)).map (·.nm) := by
  unfold usedT usedK; rw [h, if_pos rfl, pick_allU, List.take_length]
theorem used_mem (h : treeOk L H q = true) {k : Nat} {y : Hnd} (hk : H[k]? = some y) : decide (y.nm ∈ usedT L H q) = decide (0 < (usersT L H q y.nm).length) := by
  have e : usersT L H q y.nm = usersN L y.nm := by unfold usersT; rw [h]; rfl
  rw [e, used_eq h]
  refine decide_eq_decide.2 ⟨fun hm => ?_, fun hm => ?_⟩
  · obtain ⟨z, hz, hn⟩ := List.mem_map.1 hm
    have := of_decide_eq_true (List.mem_filter.1 hz).2
    rw [← hn]; exact this
  · exact List.mem_map.2 ⟨y, List.mem_filter.2 ⟨List.mem_of_getElem? hk, decide_eq_true hm⟩, rfl⟩
theorem hs_mem {i : Nat} {s : Name} (hs : s ∈ hsAt L i) : ∃ l ∈ L, s ∈ l.hs := by
  unfold hsAt at hs
  by_cases hi : i < L.length
  · have e : (L.map (·.hs)).getD i [] = L[i].hs := by simp [List.getD, hi]
    rw [e] at hs
    exact ⟨L[i], List.getElem_mem hi, hs⟩
  · have e : (L.map (·.hs)).getD i [] = [] := by simp [List.getD, Nat.le_of_not_lt hi]
    rw [e] at hs; simp at hs
theorem spotsI_mem {pl : List Nat} {s : Spt} (hs : s ∈ spotsI L pl) : ∃ i, s.hd ∈ hsAt L i := by
  induction pl with
  | nil => simp [spotsI] at hs
  | cons i r ih =>
    rw [spotsI, List.mem_append] at hs
    rcases hs with hs | hs
    · unfold ownS at hs
      obtain ⟨y, hy, rfl⟩ := List.mem_map.1 hs
      exact ⟨i, hy⟩
    · split at hs
      · simp at hs
      · exact ih hs
theorem spots_used (h : treeOk L H q = true) {s : Spt} (hs : s ∈ spotsT L H q x) : s.hd ∈ usedT L H q := by
  unfold spotsT at hs
  split at hs
  · obtain ⟨i, hi⟩ := spotsI_mem hs
    obtain ⟨l, hl, hm⟩ := hs_mem hi
    have hH : ∃ y ∈ H, y.nm = s.hd := by
      have h' := h
      unfold treeOk hndsOk lgrsOk at h'
      simp only [Bool.and_eq_true, decide_eq_true_eq, List.all_eq_true] at h'
      have h1 := h'.2.2.1 l hl
      unfold lgrOk at h1
      simp only [Bool.and_eq_true, decide_eq_true_eq, List.all_eq_true] at h1
      have h3 := h1.2.2.2.1 _ hm
      unfold hasL at h3
      obtain ⟨y, hy, e⟩ := List.any_eq_true.1 h3
      exact ⟨y, hy, of_decide_eq_true e⟩
    obtain ⟨y, hy, e⟩ := hH
    rw [used_eq h]
    refine List.mem_map.2 ⟨y, List.mem_filter.2 ⟨hy, decide_eq_true ?_⟩, e⟩
    rw [usersN_eq]
    refine List.length_pos_of_mem (List.mem_map.2 ⟨l, List.mem_filter.2 ⟨hl, decide_eq_true ?_⟩, rfl⟩)
    rw [e]; exact hm
  · simp at hs
end Go.Proofs.YtioegkcekbkblaaGreat

/-
  A WHOLE STRUCT STORED INTO A BOX OF OURS, in a region that draws its order.
-/
namespace Go.Proofs.YtioegkcekbkblaaGreat
open Go.RowKit Nm
set_option linter.unusedSimpArgs false
set_option linter.unusedVariables false

theorem below_setCells {B : Nat} {w : World} (b : Nat) (hb : B ≤ b) : ∀ (vs : List Value) (o : Nat) (w' : World), Below B w w' → Below B w (w'.setCells b o vs)
  | [], _, _, h => h
  | v :: r, o, w', h => below_setCells b hb r (o + 1) _ (h.setCell (p := ⟨b, o, none⟩) hb v)
theorem Blk.there {w : World} {b : Nat} {cs : List Value} (h : Blk w b cs) : w.there b 0 cs.length := fun j hj => by
  have := h.2 j cs[j] (List.getElem?_eq_getElem hj)
  rw [Nat.zero_add]
  exact ⟨by rw [this.1]; rfl, this.2⟩
theorem size_setCells (b : Nat) : ∀ (vs : List Value) (o : Nat) (w : World), (w.setCells b o vs).heap.size = w.heap.size
  | [], _, _ => rfl
  | v :: r, o, w => by rw [World.setCells, size_setCells b r]; simp
theorem Blk.store {w : World} {b : Nat} {cs vs : List Value} (h : Blk w b cs) (hl : cs.length = vs.length) : Blk (w.setCells b 0 vs) b vs := by
  have ht := h.there
  rw [hl] at ht
  refine ⟨by rw [size_setCells]; exact h.1, fun j u hu => ⟨?_, ?_⟩⟩
  · have := World.rangeAt_setCells_same w b 0 vs ht j u hu
    rwa [Nat.zero_add] at this
  · rw [World.frozen?_setCells]
    have hj := (List.getElem?_eq_some_iff.1 hu).1
    have := (ht j hj).2
    rwa [Nat.zero_add] at this
theorem spot_next {P X Y : List Spt} {a j : Nat} {s : Spt} (h : P.drop a = X.drop j ++ Y) (hx : X[j]? = some s) : P[a]? = some s ∧ P.drop (a + 1) = X.drop (j + 1) ++ Y := by
  obtain ⟨hj, rfl⟩ := List.getElem?_eq_some_iff.1 hx
  rw [List.drop_eq_getElem_cons hj, List.cons_append] at h
  refine ⟨?_, ?_⟩
  · have h1 := congrArg (fun l => l[0]?) h
    simpa using h1
  · have h1 := congrArg (List.drop 1) h
    simpa using h1
theorem Tryz.sizeLogger : (Tryz.prog.info? 72).map (·.size) = some 6 := by kernel_rfl
end Go.Proofs.YtioegkcekbkblaaGreat

/-
  STOP, plain: a logger's spots are its own, and those of its parent if it does not stop.
-/
namespace Go.Proofs.YtioegkcekbkblaaGreat
open Go.RowKit Nm
set_option linter.unusedSimpArgs false
set_option linter.unusedVariables false

theorem treeOk_stop (L : List Lgr) (H : List Hnd) (q : Int) (k : Nat) (b : Bool) : treeOk (updL L k (setStopF b)) H q = treeOk L H q := by
  unfold treeOk lgrsOk
  rw [all_upd (lgrOk H) (f := setStopF b) (fun _ => rfl) L k, map_upd (·.nm) (f := setStopF b) (fun _ => rfl) L k, len_upd]
theorem stop_cases (L : List Lgr) (H : List Hnd) (q : Int) (s : Name) (b : Bool) : lgrX L H q s (setStopF b) = none ∨
    ∃ (k : Nat) (l : Lgr), L[k]? = some l ∧ l.nm = s ∧ treeOk L H q = true ∧ lgrX L H q s (setStopF b) = some (updL L k (setStopF b), H, q) := by
  unfold lgrX changedO
  by_cases hneg : idxL (namesOf L) s < 0
  · exact .inl (by rw [if_pos hneg])
  · obtain ⟨k, hk⟩ : ∃ k : Nat, idxL (namesOf L) s = (k : Int) := ⟨_, (Int.toNat_of_nonneg (by omega)).symm⟩
    obtain ⟨hkl, hks⟩ := idx_nat hk
    cases h1 : treeOk L H q with
    | false => exact .inl (by rw [if_neg hneg]; simp)
    | true =>
      refine .inr ?_
      obtain ⟨l, hl⟩ : ∃ l, L[k]? = some l := ⟨_, List.getElem?_eq_getElem (by unfold namesOf at hkl; simpa using hkl)⟩
      have hn : l.nm = s := by unfold namesOf at hks; rw [List.getElem?_map, hl] at hks; exact Option.some.inj hks
      refine ⟨k, l, hl, hn, rfl, ?_⟩
      rw [if_neg hneg, hk]
      simp only [Int.toNat_natCast, if_true, Option.bind_some]
      unfold ifOk
      rw [treeOk_stop, h1]; rfl
variable {L : List Lgr} {H : List Hnd} {q : Int}
theorem hsAt_stop (k : Nat) (b : Bool) (i : Nat) : hsAt (updL L k (setStopF b)) i = hsAt L i := by unfold hsAt; rw [map_upd (·.hs) (f := setStopF b) (fun _ => rfl) L k]
theorem ownS_stop (k : Nat) (b : Bool) (i : Nat) : ownS (updL L k (setStopF b)) i = ownS L i := by
  unfold ownS; rw [hsAt_stop, ns_upd (f := setStopF b) (fun _ => rfl) L k]
theorem stopAt_eq (L : List Lgr) (j : Nat) : stopAt L j = ((L[j]?).map (·.stop)).getD false := by unfold stopAt; rw [List.getD_eq_getElem?_getD, List.getElem?_map]
theorem stopAt_here {k : Nat} {l : Lgr} (b : Bool) (hl : L[k]? = some l) : stopAt (updL L k (setStopF b)) k = b := by rw [stopAt_eq, upd_at hl, set_at hl]; rfl
theorem stop_spots {k : Nat} {l : Lgr} (b : Bool) (h : treeOk L H q = true) (hl : L[k]? = some l) :
    spotsT (updL L k (setStopF b)) H q l.nm = ownS L k ++ (if (!b && parentB L H q l.nm) = true then spotsT (updL L k (setStopF b)) H q (parentT L H q l.nm) else []) := by
  obtain ⟨h0, hnd, hnm⟩ := tree_nm h
  have hns : nsOf (updL L k (setStopF b)) = nsOf L := ns_upd (f := setStopF b) (fun _ => rfl) L k
  have hok' : treeOk (updL L k (setStopF b)) H q = true := by rw [treeOk_stop]; exact h
  have hq := ns_at hl
  have hk : k < (nsOf L).length := (List.getElem?_eq_some_iff.1 hq).1
  have g : (nsOf L).getD k [] = l.nm := by simp [List.getD, hq]
  have hm : l.nm ∈ nsOf L := List.mem_of_getElem? hq
  have hnn := hnm _ hm
  have hnr := near_hit h0 hnd l.nm k hq
  rw [spots_ok hok' hnn, hns]
  unfold pathN
  rw [hnr]
  by_cases hr : l.nm = []
  · have hp : parentB L H q l.nm = false := by unfold parentB; simp [hr]
    rw [pathF_root (by rw [g]; exact hr), hp, spotsI, ownS_stop]
    cases b <;> simp [spotsI]
  · have hp : parentB L H q l.nm = true := by unfold parentB; simp [hr, h, hm]
    have hu : upN (nsOf L) k < (nsOf L).length := near_lt h0 _
    have e1 : parentT L H q l.nm = (nsOf L).getD (upN (nsOf L) k) [] := by unfold parentT; rw [hp, if_pos rfl, hnr]
    have hq2 : (nsOf L)[upN (nsOf L) k]? = some (parentT L H q l.nm) := by rw [e1, List.getElem?_eq_getElem hu]; simp [List.getD, hu]
    have hd := depth_up h0 hnm hk (by rw [g]; exact hr)
    have hd4 := depth_le hnm k
    rw [pathF_succ _ 3 k, if_neg (by rw [g]; exact hr), spotsI, ownS_stop, stopAt_here b hl, hp, Bool.and_true]
    rw [spots_ok hok' (hnm _ (List.mem_of_getElem? hq2)), hns]
    unfold pathN
    rw [near_hit h0 hnd _ _ hq2, pathF_more h0 hnm 3 _ hu (by omega)]
    cases b <;> rfl
end Go.Proofs.YtioegkcekbkblaaGreat

/-
  A LOGGER ADDED, plain: no level and no spot changes.
-/
namespace Go.Proofs.YtioegkcekbkblaaGreat
open Go.RowKit Nm
set_option linter.unusedSimpArgs false
set_option linter.unusedVariables false

theorem getD_snoc {α : Type} (l : List α) (a d : α) (i : Nat) (h : i ≠ l.length) : (l ++ [a]).getD i d = l.getD i d := by
  rw [List.getD_eq_getElem?_getD, List.getD_eq_getElem?_getD]
  by_cases hi : i < l.length
  · rw [List.getElem?_append_left hi]
  · rw [List.getElem?_eq_none (by simp; omega), List.getElem?_eq_none (by omega)]
theorem getD_last {α : Type} (l : List α) (a d : α) : (l ++ [a]).getD l.length d = a := by simp [List.getD_eq_getElem?_getD]
theorem near_above {ns : List Name} (h0 : ns[0]? = some []) (hnd : ns.Nodup) {s : Name} (hs : nameOk s = true) (hn : s ∉ ns) : nearN ns s = nearN ns (aboveL s) := by
  have hl := near_lt h0 s
  have hne : ∀ j, j < ns.length → s ≠ ns.getD j [] := fun j hj e => hn (by rw [e]; exact getD_mem hj)
  obtain ⟨h1, h2⟩ := best_spec h0 s ns.length (Nat.le_refl _)
  refine (near_unique h0 hnd (aboveL s) (nearN ns s) hl ?_ fun j hj hb => ?_).symm
  · rw [below_above hs (hne _ hl)]; exact h1
  · rw [below_above hs (hne _ hj)] at hb
    exact h2 j hj hb
theorem near_add {ns : List Name} (h0 : ns[0]? = some []) (hnd : ns.Nodup) (s x : Name) :
    nearN (ns ++ [s]) x = nearN ns x ∨ (nearN (ns ++ [s]) x = ns.length ∧ belowL x s = true ∧ nearN ns x = nearN ns s) := by
  have hp : 0 < ns.length := (List.getElem?_eq_some_iff.1 h0).1
  have h0' : (ns ++ [s])[0]? = some [] := by rw [List.getElem?_append_left hp]; exact h0
  have hl := near_lt h0' x
  rw [List.length_append, List.length_singleton] at hl
  obtain ⟨h1, h2⟩ := best_spec h0' x (ns ++ [s]).length (Nat.le_refl _)
  replace h1 : belowL x ((ns ++ [s]).getD (nearN (ns ++ [s]) x) []) = true := h1
  replace h2 : ∀ j, j < (ns ++ [s]).length → belowL x ((ns ++ [s]).getD j []) = true → ((ns ++ [s]).getD j []).length ≤ ((ns ++ [s]).getD (nearN (ns ++ [s]) x) []).length := h2
  rw [List.length_append, List.length_singleton] at h2
  by_cases hi : nearN (ns ++ [s]) x = ns.length
  · refine .inr ⟨hi, ?_, ?_⟩
    · rw [hi, getD_last] at h1; exact h1
    · rw [hi, getD_last] at h1 h2
      have hls := near_lt h0 s
      obtain ⟨g1, g2⟩ := best_spec h0 s ns.length (Nat.le_refl _)
      refine near_unique h0 hnd x (nearN ns s) hls (belowL_trans h1 g1) fun j hj hb => ?_
      have h3 := h2 j (by omega) (by rw [getD_snoc _ _ _ _ (by omega)]; exact hb)
      rw [getD_snoc _ _ _ _ (by omega)] at h3
      exact g2 j hj (below_chain h1 hb h3)
  · left
    rw [getD_snoc _ _ _ _ hi] at h1 h2
    refine (near_unique h0 hnd x _ (by omega) h1 fun j hj hb => ?_).symm
    have h3 := h2 j (by omega) (by rw [getD_snoc _ _ _ _ (by omega)]; exact hb)
    rwa [getD_snoc _ _ _ _ (by omega)] at h3
theorem path_unf {ns : List Name} (h0 : ns[0]? = some []) (hok : ∀ z ∈ ns, nameOk z = true) (x : Name) :
    pathN ns x = nearN ns x :: (if ns.getD (nearN ns x) [] = [] then [] else pathN ns (aboveL (ns.getD (nearN ns x) []))) := by
  have hl := near_lt h0 x
  have hd4 := depth_le hok (nearN ns x)
  unfold pathN
  by_cases hr : ns.getD (nearN ns x) [] = []
  · rw [pathF_root hr, if_pos hr]
  · have hd := depth_up h0 hok hl hr
    have e3 := pathF_more h0 hok 3 (upN ns (nearN ns x)) (near_lt h0 _) (by omega)
    rw [pathF_succ _ 3, if_neg hr, if_neg hr, ← e3]
    rfl
theorem path_add {ns : List Name} (h0 : ns[0]? = some []) (hnd : ns.Nodup) (hok : ∀ z ∈ ns, nameOk z = true) {s : Name} (hs : nameOk s = true) (hn : s ∉ ns) :
    ∀ (d : Nat) (x : Name), nameOk x = true → (partsL x).length ≤ d → (pathN (ns ++ [s]) x).filter (fun i => decide (i ≠ ns.length)) = pathN ns x := by
  have hp : 0 < ns.length := (List.getElem?_eq_some_iff.1 h0).1
  have h0' : (ns ++ [s])[0]? = some [] := by rw [List.getElem?_append_left hp]; exact h0
  have hok' : ∀ z ∈ ns ++ [s], nameOk z = true := fun z hz => by
    rcases List.mem_append.1 hz with h | h
    · exact hok z h
    · rw [List.mem_singleton] at h; subst h; exact hs
  have hs0 : s ≠ [] := fun e => hn (by rw [e]; exact List.mem_of_getElem? h0)
  intro d
  induction d with
  | zero =>
    intro x hx hd
    have hx0 : x = [] := (partsL_nil_iff x).1 (List.length_eq_zero_iff.1 (by omega))
    subst hx0
    have e1 : nearN ns [] = 0 := near_hit h0 hnd [] 0 h0
    have hnd' : (ns ++ [s]).Nodup := List.nodup_append.2 ⟨hnd, by simp, fun a ha b hb e => hn (by rw [List.mem_singleton] at hb; subst hb; subst e; exact ha)⟩
    have e2 : nearN (ns ++ [s]) [] = 0 := near_hit h0' hnd' [] 0 h0'
    have g1 : ns.getD 0 [] = [] := by simp [List.getD, h0]
    have g2 : (ns ++ [s]).getD 0 [] = [] := by rw [List.getD_eq_getElem?_getD, h0']; rfl
    unfold pathN
    rw [e1, e2, pathF_root g1, pathF_root g2]
    simp; omega
  | succ d ih =>
    intro x hx hd
    rw [path_unf h0' hok' x]
    rcases near_add h0 hnd s x with e | ⟨e, hb, e2⟩
    · have hl := near_lt h0 x
      have hb := (best_spec h0 x ns.length (Nat.le_refl _)).1
      replace hb : belowL x (ns.getD (nearN ns x) []) = true := hb
      rw [e, getD_snoc _ _ _ _ (by omega), path_unf h0 hok x, List.filter_cons_of_pos (by simp; omega)]
      congr 1
      by_cases hr : ns.getD (nearN ns x) [] = []
      · rw [if_pos hr, if_pos hr]; rfl
      · rw [if_neg hr, if_neg hr]
        have hy := hok _ (getD_mem hl)
        have h3 := above_shorter hy hr
        have h4 := below_parts hb
        exact ih _ (above_name hy).1 (by omega)
    · rw [e, getD_last, if_neg hs0, List.filter_cons_of_neg (by simp)]
      have h3 := above_shorter hs hs0
      have h4 := below_parts hb
      rw [ih _ (above_name hs).1 (by omega)]
      unfold pathN
      rw [e2, near_above h0 hnd hs hn]
theorem spotsI_skip {L L' : List Lgr} {n : Nat} (h1 : ∀ i, i ≠ n → ownS L' i = ownS L i) (h2 : ∀ i, i ≠ n → stopAt L' i = stopAt L i) (h3 : ownS L' n = []) (h4 : stopAt L' n = false) (pl : List Nat) :
    spotsI L' pl = spotsI L (pl.filter (fun i => decide (i ≠ n))) := by
  induction pl with
  | nil => rfl
  | cons i r ih =>
    by_cases hi : i = n
    · subst hi
      rw [List.filter_cons_of_neg (by simp), ← ih, spotsI, h3, h4]; rfl
    · rw [List.filter_cons_of_pos (by simpa using hi), spotsI, spotsI, h1 i hi, h2 i hi, ih]
theorem firstLv_skipN {lv lv' : Nat → Int} {n : Nat} (h1 : ∀ i, i ≠ n → lv' i = lv i) (h2 : lv' n = 0) (pl : List Nat) :
    firstLv (pl.map lv') = firstLv ((pl.filter (fun i => decide (i ≠ n))).map lv) := by
  induction pl with
  | nil => rfl
  | cons i r ih =>
    by_cases hi : i = n
    · subst hi
      rw [List.filter_cons_of_neg (by simp), ← ih, List.map_cons, firstLv, h2, if_neg (by omega)]
    · rw [List.filter_cons_of_pos (by simpa using hi), List.map_cons, List.map_cons, firstLv, firstLv, h1 i hi, ih]
theorem nsOf_snoc (L : List Lgr) (s : Name) : nsOf (L ++ [mkL s]) = nsOf L ++ [s] := by simp [nsOf, mkL]
variable {L : List Lgr} {H : List Hnd} {q : Int}
theorem add_same {s x : Name} (h : treeOk L H q = true) (h' : treeOk (addT L s) H q = true) (hx : nameOk x = true) :
    spotsT (addT L s) H q x = spotsT L H q x ∧ levelT (addT L s) H q x = levelT L H q x := by
  rw [spots_ok h' hx, spots_ok h hx, level_is h' hx, level_is h hx]
  by_cases hneg : idxL (namesOf L) s < 0
  · obtain ⟨h0, hnd, hok⟩ := tree_nm h
    obtain ⟨_, _, hok'⟩ := tree_nm h'
    have e : addT L s = L ++ [mkL s] := by unfold addT; rw [if_pos hneg]
    have hn : s ∉ nsOf L := (idx_neg (namesOf L) s).1 hneg
    have hlen : (nsOf L).length = L.length := by unfold nsOf; rw [List.length_map]
    rw [e] at hok' h' ⊢
    rw [nsOf_snoc] at hok' ⊢
    have hs := hok' s (by simp)
    have hp := path_add h0 hnd hok hs hn _ x hx (Nat.le_refl _)
    rw [hlen] at hp
    have l0 : ∀ k, 0 ≤ lvAt L k := lvAt_nonneg (fun l hl => ((tree_names h).2.2.2.2.2 l hl).1)
    have l0' : ∀ k, 0 ≤ lvAt (L ++ [mkL s]) k := lvAt_nonneg (fun l hl => ((tree_names h').2.2.2.2.2 l hl).1)
    have hL : ∀ {α : Type} (f : Lgr → α) (d : α) (i : Nat), i ≠ L.length → ((L ++ [mkL s]).map f).getD i d = (L.map f).getD i d := fun f d i hi => by
      rw [List.map_append]; exact getD_snoc _ _ _ _ (by rw [List.length_map]; exact hi)
    have hZ : ∀ {α : Type} (f : Lgr → α) (d : α), ((L ++ [mkL s]).map f).getD L.length d = f (mkL s) := fun f d => by
      rw [List.map_append]
      have := getD_last (L.map f) (f (mkL s)) d
      rwa [List.length_map] at this
    refine ⟨?_, ?_⟩
    · rw [spotsI_skip (L := L) (n := L.length) ?_ ?_ ?_ ?_, hp]
      · intro i hi
        unfold ownS hsAt
        rw [hL (·.hs) [] i hi, nsOf_snoc, getD_snoc _ _ _ _ (by rw [hlen]; exact hi)]
      · intro i hi; exact hL (·.stop) false i hi
      · unfold ownS hsAt; rw [hZ (·.hs) []]; rfl
      · exact hZ (·.stop) false
    · rw [← level_first _ l0', ← level_first _ l0]
      have h9 := firstLv_skipN (lv := lvAt L) (lv' := lvAt (L ++ [mkL s])) (n := L.length) (fun i hi => hL (·.lv) 0 i hi) (hZ (·.lv) 0) (pathN (nsOf L ++ [s]) x)
      rw [hp] at h9
      exact h9
  · have e : addT L s = L := by unfold addT; rw [if_neg hneg]
    rw [e]; exact ⟨rfl, rfl⟩
theorem add_there (L : List Lgr) (s : Name) : ¬ idxL (namesOf (addT L s)) s < 0 := by
  intro hn
  have h1 := (idx_neg _ _).1 hn
  by_cases hneg : idxL (namesOf L) s < 0
  · have e : addT L s = L ++ [mkL s] := by unfold addT; rw [if_pos hneg]
    rw [e] at h1
    exact h1 (by simp [namesOf, mkL])
  · have e : addT L s = L := by unfold addT; rw [if_neg hneg]
    rw [e] at hn
    exact hneg hn
theorem add_cases (L : List Lgr) (H : List Hnd) (q : Int) (s : Name) : addX L H q s = none ∨
    (treeOk L H q = true ∧ treeOk (addT L s) H q = true ∧ addX L H q s = some (addT L s, H, q) ∧ addX (addT L s) H q s = some (addT L s, H, q)) := by
  have e2 : addT (addT L s) s = addT L s := by
    have h9 := add_there L s
    generalize addT L s = M at *
    unfold addT
    rw [if_neg h9]
  unfold addX changedO ifOk
  rw [e2]
  cases h1 : treeOk L H q with
  | false => exact .inl (by simp)
  | true =>
    cases h2 : treeOk (addT L s) H q with
    | false => exact .inl (by simp [h2])
    | true => exact .inr ⟨rfl, rfl, by simp [h2], by simp [h2]⟩
end Go.Proofs.YtioegkcekbkblaaGreat

/-
  LAWS: the names of a tree's loggers.
-/
namespace Go.Proofs.YtioegkcekbkblaaGreat
open Go.RowKit Nm
set_option linter.unusedSimpArgs false
set_option linter.unusedVariables false

set_option maxHeartbeats 2000000 in
set_option maxRecDepth 100000 in
theorem lawNames_c {w : World} {B : Nat} {v : Value} {L : List Lgr} {H : List Hnd} {q : Int} (h : TreeIn w B v L H q) (hB : B ≤ w.heap.size) (h8 : L.length ≤ 8) :
    Calls Tryz.prog 36 #[v] w (StrsPost w (nsOf L)) := by
  obtain ⟨A1, n1, k1, A2, n2, k2, rfl⟩ := h.form
  obtain ⟨ls, hl, hL⟩ := h.loggers
  have hn : n1 = L.length := by rw [← hL, ← hl.count]; simp [lsOf]
  have hlen : (nsOf L).length = n1 := by unfold nsOf; rw [List.length_map, hn]
  have hcap := hl.1.cap
  unfold maxLen at hcap
  have HV := hid (And.intro hl (And.intro hL hlen))
  have hn8 : n1 ≤ 8 := by omega
  clear h hl hL hlen hn
  obtain ⟨w2, hw2⟩ : ∃ w2, w2 = w.alloc (.cells #[.slice A1 n1 k1, .slice A2 n2 k2, .int .i64 q] 26) := ⟨_, rfl⟩
  have hs2 : w2.heap.size = w.heap.size + 1 := by rw [hw2]; simp
  have HB2 := hid (show Below w.heap.size w w2 by rw [hw2]; exact (Below.refl _ _).alloc (Nat.le_refl _) _)
  have HK2 := hid (show Blk w2 w.heap.size [.slice A1 n1 k1, .slice A2 n2 k2, .int .i64 q] by rw [hw2]; exact Blk.new w _ _)
  have H0 := hid (show (w2.alloc (.cells #[] 9)).ownsRow w2.heap.size 9 1 (.slice (some ⟨w2.heap.size, 0, none⟩) 0 0) 0 [] from World.ownsRow_lit w2 #[] 0 (Nat.le_refl _) (by unfold maxLen; omega) rfl)
  have HB3 := hid (show Below w2.heap.size w2 (w2.alloc (.cells #[] 9)) from (Below.refl _ _).alloc (Nat.le_refl _) _)
  rw [hs2] at H0
  have HS2 := hid hs2
  have hlt2 : w.heap.size < w2.heap.size := by omega
  clear hs2
  go_enter Tryz.func36, Tryz.ntmps36
  go_wp2_with fail
  rw [← hw2]
  clear hw2


  go_loopw [3, 4] (fun sv iv wr => ∃ (k : Nat) (pre : List Name), iv = .int .i64 k ∧ k ≤ n1 ∧ Hid (pre = (nsOf L).take k) ∧ pre.length = k ∧ wr.ownsRow (w.heap.size + 1) 9 1 sv pre.length (pre.map txt) ∧ Hid (Below w2.heap.size w2 wr)) (fun _ iv _ => n1 - (intOf iv).toNat)
  case atStart => exact ⟨0, [], rfl, by omega, rfl, rfl, H0.out, HB3.out⟩
  case round =>
    obtain ⟨k, pre, rfl, hk, HE, rfl, hown, HBx⟩ := hrel
    obtain ⟨Ax, cx, rfl, _, _⟩ := (Sl.of_own hown).form
    have HO := hid hown
    have HW := hid (HB2.out.trans (HBx.out.mono HB2.out.size))
    have d0 := ((HK2.out.below HBx.out hlt2).2 0 _ rfl).1
    have hbs : w.heap.size + 1 ≤ wr.heap.size := by have := HBx.out.size; have := HS2.out; omega
    clear hown
    by_cases hlt : pre.length < n1
    · obtain ⟨b, o, y, p, rfl, hbB, hy, hp, hps, _, _, g0, _⟩ := HV.out.1.at_ hlt
      have hbw : b < w.heap.size := by omega
      have c0 := (HW.out.cell (p := ⟨b, o + pre.length * 6, none⟩) hbw).trans g0
      have HP := hid (show (nsOf L)[pre.length]? = some p.data.toList by rw [← HV.out.2.1]; unfold nsOf lsOf; rw [List.map_map, List.getElem?_map, hy, hp]; rfl)
      clear hy hp hps g0
      go_wp2_with (at_builtin; refine appText _ rfl (.tmp 13) (.tmp 20) rfl (w.heap.size + 1) _ pre (by rfl) HO.out p _ _ _ (by rfl) (by simp) (by omega) hbs ?_)
      intro v' w4 ho4 hb4
      have HO4 := hid ho4
      have HB4 := hid (HBx.out.trans (hb4.mono (by have := HS2.out; omega)))
      clear ho4 hb4
      go_wp2_with fail
      go_roundw
      case rel =>
        refine ⟨pre.length + 1, pre ++ [p.data.toList], by go_num, by omega, ?_, by simp, by simpa using HO4.out, HB4.out⟩
        show _ = _
        rw [List.take_add_one, HP.out, ← HE.out]; rfl
      case measure => simp [intOf]; omega
    · have HF := hid (show nsOf L = pre by rw [HE.out, List.take_of_length_le (by have := HV.out.2.2; omega)])
      go_wp2_with fail
      go_ret
      exact ⟨_, rfl, by rw [HF.out]; exact own_base HO.out (by omega), HW.out⟩
theorem add_names {L : List Lgr} {H : List Hnd} {q : Int} {s : Name} (h : treeOk L H q = true) (h' : treeOk (addT L s) H q = true) : ∀ x ∈ nsOf L ++ [s, [97, 46, 98, 46, 99, 46, 100]], nameOk x = true := by
  intro x hx
  rcases List.mem_append.1 hx with hx | hx
  · exact (tree_nm h).2.2 x hx
  · simp only [List.mem_cons, List.not_mem_nil, or_false] at hx
    rcases hx with rfl | rfl
    · refine (tree_nm h').2.2 _ ?_
      have h9 := add_there L x
      rw [idx_neg] at h9
      exact Classical.byContradiction h9
    · decide
end Go.Proofs.YtioegkcekbkblaaGreat
