/-
  PLAIN: the logger nearest to a name, the path to the root, the level that counts.
-/
import Derived.Test.YtlhelhfaogcibaaT4
namespace Go.Proofs.Ytlhelhfaogcibaa
open Nm
set_option linter.unusedSimpArgs false
set_option linter.unusedVariables false

abbrev Name := List UInt8
/-- the best of the first k names that x is below -/
def bestN (ns : List Name) (x : Name) : Nat → Nat
  | 0 => 0
  | k + 1 => if belowL x (ns.getD k []) && decide ((ns.getD (bestN ns x k) []).length < (ns.getD k []).length) then k else bestN ns x k
def nearN (ns : List Name) (x : Name) : Nat := bestN ns x ns.length
theorem belowL_root (x : Name) : belowL x [] = true := by simp [belowL]
theorem belowL_self (x : Name) : belowL x x = true := by simp [belowL]
theorem belowL_pre {x y : Name} (h : belowL x y = true) : y <+: x := by
  simp only [belowL, Bool.or_eq_true, decide_eq_true_eq] at h
  rcases h with rfl | rfl | h
  · exact List.nil_prefix
  · exact List.prefix_refl _
  · exact (List.prefix_append y [46]).trans h
theorem best_lt (ns : List Name) (x : Name) (k : Nat) : bestN ns x k < max 1 k := by
  induction k with
  | zero => simp [bestN]
  | succ k ih => simp only [bestN]; split <;> omega
theorem best_spec {ns : List Name} (h0 : ns[0]? = some []) (x : Name) (k : Nat) (hk : k ≤ ns.length) :
    belowL x (ns.getD (bestN ns x k) []) = true ∧ ∀ j, j < k → belowL x (ns.getD j []) = true → (ns.getD j []).length ≤ (ns.getD (bestN ns x k) []).length := by
  induction k with
  | zero =>
    refine ⟨?_, fun j hj => by omega⟩
    have e : ns.getD (bestN ns x 0) [] = [] := by simp [bestN, List.getD, h0]
    rw [e]; exact belowL_root x
  | succ k ih =>
    obtain ⟨i1, i2⟩ := ih (by omega)
    simp only [bestN]
    split
    · rename_i h
      simp only [Bool.and_eq_true, decide_eq_true_eq] at h
      refine ⟨h.1, fun j hj hb => ?_⟩
      by_cases e : j = k
      · rw [e]; exact Nat.le_refl _
      · have := i2 j (by omega) hb; omega
    · rename_i h
      simp only [Bool.and_eq_true, decide_eq_true_eq, not_and, Nat.not_lt] at h
      refine ⟨i1, fun j hj hb => ?_⟩
      by_cases e : j = k
      · subst e; exact h hb
      · exact i2 j (by omega) hb
theorem near_lt {ns : List Name} (h0 : ns[0]? = some []) (x : Name) : nearN ns x < ns.length := by
  have := best_lt ns x ns.length
  have h1 : 0 < ns.length := (List.getElem?_eq_some_iff.1 h0).1
  unfold nearN; omega
theorem near_unique {ns : List Name} (h0 : ns[0]? = some []) (hn : ns.Nodup) (x : Name) (i : Nat) (hi : i < ns.length) (hb : belowL x (ns.getD i []) = true)
    (hm : ∀ j, j < ns.length → belowL x (ns.getD j []) = true → (ns.getD j []).length ≤ (ns.getD i []).length) : nearN ns x = i := by
  obtain ⟨h1, h2⟩ := best_spec h0 x ns.length (Nat.le_refl _)
  have hl := near_lt h0 x
  have e1 := hm _ hl h1
  have e2 := h2 i hi hb
  have p1 := belowL_pre h1
  have p2 := belowL_pre hb
  have e3 : ns.getD (nearN ns x) [] = ns.getD i [] := by
    have := List.prefix_of_prefix_length_le p1 p2 e1
    exact this.eq_of_length (Nat.le_antisymm e1 e2)
  have g1 : ns.getD (nearN ns x) [] = ns[nearN ns x] := by simp [List.getD, hl]
  have g2 : ns.getD i [] = ns[i] := by simp [List.getD, hi]
  rw [g1, g2] at e3
  exact (List.getElem_inj hn).1 e3
theorem near_hit {ns : List Name} (h0 : ns[0]? = some []) (hn : ns.Nodup) (x : Name) (i : Nat) (h : ns[i]? = some x) : nearN ns x = i := by
  have hi := (List.getElem?_eq_some_iff.1 h).1
  have e : ns.getD i [] = x := by simp [List.getD, h]
  refine near_unique h0 hn x i hi (by rw [e]; exact belowL_self x) (fun j hj hb => ?_)
  rw [e]; exact (belowL_pre hb).length_le
theorem above_name {x : Name} (h : nameOk x = true) : nameOk (aboveL x) = true ∧ partsL (aboveL x) = (partsL x).dropLast := by
  obtain ⟨h1, h2⟩ := words_prefix h (List.dropLast_prefix (partsL x))
  exact nameOk_join _ h1 h2
theorem above_shorter {x : Name} (h : nameOk x = true) (hx : x ≠ []) : (partsL (aboveL x)).length < (partsL x).length := by
  rw [(above_name h).2, List.length_dropLast]
  have : partsL x ≠ [] := fun e => hx ((partsL_nil_iff x).1 e)
  have := List.length_pos_iff.2 this
  omega
theorem below_above {x y : Name} (h : nameOk x = true) (hne : x ≠ y) : belowL (aboveL x) y = belowL x y := by
  rw [Bool.eq_iff_iff, belowL_iff, belowL_iff, (above_name h).2]
  constructor
  · exact fun h => h.trans (List.dropLast_prefix _)
  · intro hp
    have hlt : (partsL y).length < (partsL x).length := by
      rcases Nat.lt_or_ge (partsL y).length (partsL x).length with h1 | h1
      · exact h1
      · exact absurd (partsL_inj (hp.eq_of_length_le h1)).symm hne
    refine List.prefix_of_prefix_length_le hp (List.dropLast_prefix _) ?_
    rw [List.length_dropLast]; omega
theorem best_congr {ns : List Name} {x y : Name} (h : ∀ z ∈ ns, belowL x z = belowL y z) (k : Nat) (hk : k ≤ ns.length) : bestN ns x k = bestN ns y k := by
  induction k with
  | zero => rfl
  | succ k ih =>
    have e : ns.getD k [] ∈ ns := by
      have hk' : k < ns.length := hk
      have g : ns.getD k [] = ns[k] := by simp [List.getD, hk']
      rw [g]; exact List.getElem_mem _
    simp only [bestN]
    rw [ih (by omega), h _ e]
theorem near_miss {ns : List Name} {x : Name} (h : nameOk x = true) (hx : x ∉ ns) : nearN ns (aboveL x) = nearN ns x :=
  best_congr (fun z hz => below_above h (fun e => hx (e ▸ hz))) _ (Nat.le_refl _)

/-- the logger above logger k -/
def upN (ns : List Name) (k : Nat) : Nat := nearN ns (aboveL (ns.getD k []))
def pathF (ns : List Name) : Nat → Nat → List Nat
  | 0, k => [k]
  | f + 1, k => if ns.getD k [] = [] then [k] else k :: pathF ns f (upN ns k)
def pathN (ns : List Name) (x : Name) : List Nat := pathF ns 4 (nearN ns x)
def depthN (ns : List Name) (k : Nat) : Nat := (partsL (ns.getD k [])).length
theorem pathF_root {ns : List Name} {f k : Nat} (h : ns.getD k [] = []) : pathF ns f k = [k] := by
  cases f with
  | zero => rfl
  | succ f => rw [pathF, if_pos h]
theorem pathF_up {ns : List Name} {f k : Nat} (h : ns.getD k [] ≠ []) (hf : depthN ns k ≤ f) : ∃ g, f = g + 1 ∧ pathF ns f k = k :: pathF ns g (upN ns k) := by
  have : 0 < depthN ns k := List.length_pos_iff.2 (fun e => h ((partsL_nil_iff _).1 e))
  obtain ⟨g, rfl⟩ : ∃ g, f = g + 1 := ⟨f - 1, by omega⟩
  exact ⟨g, rfl, by rw [pathF, if_neg h]⟩
theorem depth_up {ns : List Name} (h0 : ns[0]? = some []) (hok : ∀ z ∈ ns, nameOk z = true) {k : Nat} (hk : k < ns.length) (h : ns.getD k [] ≠ []) : depthN ns (upN ns k) < depthN ns k := by
  have g : ns.getD k [] = ns[k] := by simp [List.getD, hk]
  have hn : nameOk (ns.getD k []) = true := by rw [g]; exact hok _ (List.getElem_mem _)
  have h1 := above_shorter hn h
  have h2 := (best_spec h0 (aboveL (ns.getD k [])) ns.length (Nat.le_refl _)).1
  rw [belowL_iff] at h2
  exact Nat.lt_of_le_of_lt h2.length_le h1
theorem depth_le {ns : List Name} (hok : ∀ z ∈ ns, nameOk z = true) (k : Nat) : depthN ns k ≤ 4 := by
  unfold depthN
  by_cases hk : k < ns.length
  · have g : ns.getD k [] = ns[k] := by simp [List.getD, hk]
    rw [g]
    exact ((nameOk_iff _).1 (hok _ (List.getElem_mem _))).2
  · rw [show ns.getD k [] = [] by simp [List.getD, List.getElem?_eq_none (Nat.le_of_not_lt hk)]]
    simp [partsL]
theorem pathF_len (ns : List Name) (f k : Nat) : (pathF ns f k).length ≤ f + 1 := by
  induction f generalizing k with
  | zero => simp [pathF]
  | succ f ih => simp only [pathF]; split
                 · simp
                 · simp; exact ih _
theorem pathF_lt {ns : List Name} (h0 : ns[0]? = some []) (f k : Nat) (hk : k < ns.length) : ∀ i ∈ pathF ns f k, i < ns.length := by
  induction f generalizing k with
  | zero => intro i hi; simp [pathF] at hi; omega
  | succ f ih =>
    intro i hi
    simp only [pathF] at hi
    split at hi
    · simp at hi; omega
    · rcases List.mem_cons.1 hi with rfl | hi
      · exact hk
      · exact ih _ (near_lt h0 _) i hi
/-- the level that counts, along a path -/
def levelF (ns : List Name) (lv : Nat → Int) : Nat → Nat → Int
  | 0, k => lv k
  | f + 1, k => if lv k ≠ 0 ∨ ns.getD k [] = [] then lv k else levelF ns lv f (upN ns k)
def levelN (ns : List Name) (lv : Nat → Int) (x : Name) : Int := levelF ns lv 4 (nearN ns x)
def firstLv : List Int → Int
  | [] => 0
  | a :: l => if 0 < a then a else firstLv l
theorem level_first {ns : List Name} (lv : Nat → Int) (h0 : ∀ k, 0 ≤ lv k) (f k : Nat) : firstLv ((pathF ns f k).map lv) = levelF ns lv f k := by
  have := h0 k
  induction f generalizing k with
  | zero => simp [pathF, levelF, firstLv]; omega
  | succ f ih =>
    rw [pathF, levelF]
    by_cases hr : ns.getD k [] = []
    · rw [if_pos hr, if_pos (Or.inr hr)]; simp [firstLv]; omega
    · rw [if_neg hr, List.map_cons, firstLv, ih _ (h0 _)]
      by_cases e : lv k = 0
      · rw [if_neg (by omega), if_neg (fun h => h.elim (fun h => h e) hr)]
      · rw [if_pos (by omega), if_pos (Or.inl e)]
theorem firstLv_skip {l : List Int} {k : Nat} (h : ∀ x ∈ l.take k, ¬ 0 < x) : firstLv l = firstLv (l.drop k) := by
  induction l generalizing k with
  | nil => simp
  | cons a l ih =>
    cases k with
    | zero => rfl
    | succ k =>
      have h1 : ¬ 0 < a := h a (by simp)
      simp only [firstLv, if_neg h1, List.drop_succ_cons]
      exact ih (fun x hx => h x (by simp [hx]))
/-- what a valid tree says of its loggers -/
theorem tree_names {L : List Lgr} {H : List Hnd} {q : Int} (h : treeOk L H q = true) :
    (L.map (·.nm))[0]? = some [] ∧ (L.map (·.nm)).Nodup ∧ (∀ z ∈ L.map (·.nm), nameOk z = true) ∧ L.length ≤ 8 ∧ 1 ≤ L.length ∧ (∀ l ∈ L, 0 ≤ l.lv ∧ l.lv ≤ 60) := by
  unfold treeOk lgrsOk at h
  simp only [Bool.and_eq_true, decide_eq_true_eq, List.all_eq_true] at h
  obtain ⟨_, _, h1, h2, h3, h4, h5⟩ := h
  refine ⟨h5, h2, fun z hz => ?_, h4, h3, fun l hl => ?_⟩
  · obtain ⟨l, hl, rfl⟩ := List.mem_map.1 hz
    have := h1 l hl
    unfold lgrOk at this
    simp only [Bool.and_eq_true] at this
    exact this.1
  · have := h1 l hl
    unfold lgrOk lvOk at this
    simp only [Bool.and_eq_true, decide_eq_true_eq] at this
    exact this.2.1
end Go.Proofs.Ytlhelhfaogcibaa
