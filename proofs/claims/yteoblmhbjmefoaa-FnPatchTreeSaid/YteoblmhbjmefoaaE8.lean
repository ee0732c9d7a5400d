/-
  PLAIN: paths and parents; laws.hasText.
-/
import Derived.Test.YteoblmhbjmefoaaE7
namespace Go.Proofs.Yteoblmhbjmefoaa
open Go.RowKit Nm
set_option linter.unusedSimpArgs false
set_option linter.unusedVariables false

theorem pathF_succ (ns : List Name) (f k : Nat) : pathF ns (f + 1) k = if ns.getD k [] = [] then [k] else k :: pathF ns f (upN ns k) := rfl
theorem pathF_more {ns : List Name} (h0 : ns[0]? = some []) (hok : ∀ z ∈ ns, nameOk z = true) : ∀ (f k : Nat), k < ns.length → depthN ns k ≤ f → pathF ns (f + 1) k = pathF ns f k := by
  intro f
  induction f with
  | zero =>
    intro k hk hd
    have : ns.getD k [] = [] := (partsL_nil_iff _).1 (List.eq_nil_of_length_eq_zero (by unfold depthN at hd; omega))
    rw [pathF_succ ns 0 k, if_pos this]
    rfl
  | succ f ih =>
    intro k hk hd
    rw [pathF_succ ns (f + 1) k, pathF_succ ns f k]
    by_cases hc : ns.getD k [] = []
    · rw [if_pos hc, if_pos hc]
    · rw [if_neg hc, if_neg hc]
      have := depth_up h0 hok hk hc
      rw [ih (upN ns k) (near_lt h0 _) (by omega)]
theorem pathF_pos (ns : List Name) (f k : Nat) : 1 ≤ (pathF ns f k).length := by
  cases f with
  | zero => simp [pathF]
  | succ f => rw [pathF_succ]; split <;> simp
theorem ns_index {L : List Lgr} {x : Name} (hm : x ∈ nsOf L) : ∃ k, k < (nsOf L).length ∧ (nsOf L)[k]? = some x := by
  obtain ⟨k, hk, he⟩ := List.getElem_of_mem hm
  exact ⟨k, hk, by rw [List.getElem?_eq_getElem hk, he]⟩
/-- a logger's path: itself, and the path of its parent; it is a child of its parent -/
theorem parent_facts {L : List Lgr} {H : List Hnd} {q : Int} {x : Name} (hp : parentB L H q x = true) :
    pathT L H q x = x :: pathT L H q (parentT L H q x) ∧ x ∈ childrenT L H q (parentT L H q x) ∧ (parentT L H q x).length ≤ 100 ∧ 1 ≤ (pathT L H q (parentT L H q x)).length := by
  have hp0 := hp
  unfold parentB at hp
  simp only [Bool.and_eq_true, Bool.not_eq_true', decide_eq_false_iff_not, decide_eq_true_eq] at hp
  obtain ⟨h, hne, hm⟩ := hp
  obtain ⟨h0, hnd, hnm⟩ := tree_nm h
  obtain ⟨k, hk, hq⟩ := ns_index hm
  have g : (nsOf L).getD k [] = x := by simp [List.getD, hq]
  have hu : upN (nsOf L) k < (nsOf L).length := near_lt h0 _
  have e1 : parentT L H q x = (nsOf L).getD (upN (nsOf L) k) [] := by unfold parentT; rw [hp0, if_pos rfl, near_hit h0 hnd _ k hq]
  have hq2 : (nsOf L)[upN (nsOf L) k]? = some (parentT L H q x) := by rw [e1, List.getElem?_eq_getElem hu]; simp [List.getD, hu]
  have hnn : nameOk (parentT L H q x) = true := hnm _ (List.mem_of_getElem? hq2)
  have hd := depth_up h0 hnm hk (by rw [g]; exact hne)
  have hd4 := depth_le hnm k
  refine ⟨?_, ?_, ?_, ?_⟩
  · have hxn := hnm _ hm
    unfold pathT pathN
    rw [h, hxn, hnn, near_hit h0 hnd _ k hq, near_hit h0 hnd _ _ hq2, pathF_more h0 hnm 3 _ hu (by omega)]
    rw [show pathF (nsOf L) 4 k = k :: pathF (nsOf L) 3 (upN (nsOf L) k) by rw [pathF_succ _ 3 k, if_neg (by rw [g]; exact hne)]]
    simp [hq]
  · unfold childrenT
    rw [if_pos h]
    refine List.mem_filter.2 ⟨hm, ?_⟩
    unfold childOk
    have : upN (nsOf L) k = nearN (nsOf L) (aboveL x) := by unfold upN; rw [g]
    rw [← this, ← e1]
    simp [hne]
  · have := name_size _ hnn; omega
  · unfold pathT pathN
    rw [h, hnn, if_pos (by rfl), List.length_map]
    exact pathF_pos _ _ _

end Go.Proofs.Yteoblmhbjmefoaa
