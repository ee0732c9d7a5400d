/-
  PLAIN: paths and parents; laws.hasText.
-/
import Derived.Test.YtjejildgbmkbbaaE7
namespace Go.Proofs.Ytjejildgbmkbbaa
open Go.RowKit Nm
set_option linter.unusedSimpArgs false
set_option linter.unusedVariables false

theorem pathF_succ (ns : List Name) (f k : Nat) : pathF ns (f + 1) k = if ns.getD k [] = [] then [k] else k :: pathF ns f (upN ns k) := rfl
theorem pathF_more {ns : List Name} (h0 : ns[0]? = some []) (hok : ∀ z ∈ ns, nameOk z = true) : ∀ (f k : Nat), k < ns.length → depthN ns k ≤ f → pathF ns (f + 1) k = pathF ns f k := by
  intro f
  induction f with
  | zero =>
    intro k hk hd
    have : ns.getD k [] = [] := (partsL_nil_iff _).1 (List.eq_nil_of_length_eq_zero (by unfold depthN at hd; omega))
    rw [pathF_succ ns 0 k, if_pos this]
    rfl
  | succ f ih =>
    intro k hk hd
    rw [pathF_succ ns (f + 1) k, pathF_succ ns f k]
    by_cases hc : ns.getD k [] = []
    · rw [if_pos hc, if_pos hc]
    · rw [if_neg hc, if_neg hc]
      have := depth_up h0 hok hk hc
      rw [ih (upN ns k) (near_lt h0 _) (by omega)]
theorem pathF_pos (ns : List Name) (f k : Nat) : 1 ≤ (pathF ns f k).length := by
  cases f with
  | zero => simp [pathF]
  | succ f => rw [pathF_succ]; split <;> simp
theorem ns_index {L : List Lgr} {x : Name} (hm : x ∈ nsOf L) : ∃ k, k < (nsOf L).length ∧ (nsOf L)[k]? = some x := by
  obtain ⟨k, hk, he⟩ := List.getElem_of_mem hm
  exact ⟨k, hk, by rw [List.getElem?_eq_getElem hk, he]⟩
/-- a logger's path: itself, and the path of its parent; it is a child of its parent -/
theorem parent_facts {L : List Lgr} {H : List Hnd} {q : Int} {x : Name} (hp : parentB L H q x = true) :
    pathT L H q x = x :: pathT L H q (parentT L H q x) ∧ x ∈ childrenT L H q (parentT L H q x) ∧ (parentT L H q x).length ≤ 100 ∧ 1 ≤ (pathT L H q (parentT L H q x)).length := by
  have hp0 := hp
  unfold parentB at hp
  simp only [Bool.and_eq_true, Bool.not_eq_true', decide_eq_false_iff_not, decide_eq_true_eq] at hp
  obtain ⟨h, hne, hm⟩ := hp
  obtain ⟨h0, hnd, hnm⟩ := tree_nm h
  obtain ⟨k, hk, hq⟩ := ns_index hm
  have g : (nsOf L).getD k [] = x := by simp [List.getD, hq]
  have hu : upN (nsOf L) k < (nsOf L).length := near_lt h0 _
  have e1 : parentT L H q x = (nsOf L).getD (upN (nsOf L) k) [] := by unfold parentT; rw [hp0, if_pos rfl, near_hit h0 hnd _ k hq]
  have hq2 : (nsOf L)[upN (nsOf L) k]? = some (parentT L H q x) := by rw [e1, List.getElem?_eq_getElem hu]; simp [List.getD, hu]
  have hnn : nameOk (parentT L H q x) = true := hnm _ (List.mem_of_getElem? hq2)
  have hd := depth_up h0 hnm hk (by rw [g]; exact hne)
  have hd4 := depth_le hnm k
  refine ⟨?_, ?_, ?_, ?_⟩
  · have hxn := hnm _ hm
    unfold pathT pathN
    rw [h, hxn, hnn, near_hit h0 hnd _ k hq, near_hit h0 hnd _ _ hq2, pathF_more h0 hnm 3 _ hu (by omega)]
    rw [show pathF (nsOf L) 4 k = k :: pathF (nsOf L) 3 (upN (nsOf L) k) by rw [pathF_succ _ 3 k, if_neg (by rw [g]; exact hne)]]
    simp [hq]
  · unfold childrenT
    rw [if_pos h]
    refine List.mem_filter.2 ⟨hm, ?_⟩
    unfold childOk
    have : upN (nsOf L) k = nearN (nsOf L) (aboveL x) := by unfold upN; rw [g]
    rw [← this, ← e1]
    simp [hne]
  · have := name_size _ hnn; omega
  · unfold pathT pathN
    rw [h, hnn, if_pos (by rfl), List.length_map]
    exact pathF_pos _ _ _

set_option maxHeartbeats 1000000 in
set_option maxRecDepth 100000 in
theorem lawHasText_c (v : Value) (n B : Nat) (l : List (List UInt8)) (s : ByteArray) (w : World) (hv : Sl w B 1 n v (l.map txt)) :
    Calls Try.prog 10 #[v, .string s] w fun e w' => e = .returned (.bool (decide (s.data.toList ∈ l))) ∧ w' = w := by
  have hln : l.length = n := by have := hv.1; simpa using this
  obtain ⟨A, c, rfl, hnc, hcm⟩ := hv.form
  unfold maxLen at hcm
  have HV := hid (And.intro hv hln)
  clear hv hln
  go_enter Try.func10, Try.ntmps10
  go_wp2_with fail
  go_loop [5] (fun iv => ∃ k : Nat, iv = .int .i64 k ∧ k ≤ n ∧ Hid (s.data.toList ∉ l.take k)) (fun iv => n - (intOf iv).toNat)
  case atStart => exact ⟨0, rfl, by omega, by simp [Hid]⟩
  case round =>
    obtain ⟨k, rfl, hk, HN⟩ := hrel
    by_cases hlt : k < n
    · obtain ⟨b, o, rfl, hb, hcl⟩ := sl_elem HV.out.1 hlt
      obtain ⟨p, hp1, hp2⟩ := txt_at l k (by have := HV.out.2; omega)
      have g0 : w.cell? ⟨b, o + k, none⟩ = some (.string p) := by have := hcl 0 _ (by simpa using hp2); simpa using this
      have HX := hid hp1
      clear hp1 hp2 hcl
      by_cases he : p.data.toList = s.data.toList
      · have e1 := eq_true_of he
        have HE := hid (show decide (s.data.toList ∈ l) = true from decide_eq_true (by rw [← he]; exact List.mem_of_getElem? HX.out))
        clear he
        go_wp2_with fail
        go_ret
        exact ⟨ret_bool HE.out.symm, rfl⟩
      · have e1 := eq_false_of he
        have HE := hid (not_take_succ _ _ _ _ HN.out HX.out he)
        clear he
        go_wp2_with fail
        refine ⟨⟨k + 1, by go_num, by omega, HE⟩, by simp [intOf]; omega⟩
    · have HE := hid (show decide (s.data.toList ∈ l) = false from decide_eq_false (by have := HN.out; rwa [List.take_of_length_le (by have := HV.out.2; omega)] at this))
      go_wp2_with fail
      go_ret
      exact ⟨ret_bool HE.out.symm, rfl⟩
end Go.Proofs.Ytjejildgbmkbbaa
