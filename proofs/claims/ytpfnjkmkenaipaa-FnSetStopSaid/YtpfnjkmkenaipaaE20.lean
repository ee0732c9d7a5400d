/-
  LAWS OF SPOTS: lists of spots compared; spots and users, plain.
-/
import Derived.Test.YtpfnjkmkenaipaaU6
import Derived.Test.YtpfnjkmkenaipaaE11
import Derived.Test.YtpfnjkmkenaipaaE9
import Derived.Test.YtpfnjkmkenaipaaE15
import Derived.Test.YtpfnjkmkenaipaaU2
namespace Go.Proofs.Ytpfnjkmkenaipaa
open Go.RowKit Nm
set_option linter.unusedSimpArgs false
set_option linter.unusedVariables false

set_option maxHeartbeats 2000000 in
set_option maxRecDepth 100000 in
theorem equalSpots_c (v1 v2 : Value) (n B : Nat) (l : List Spt) (w : World) (h1 : Sl w B 2 n v1 (l.flatMap spcells)) (h2 : Sl w B 2 n v2 (l.flatMap spcells)) (hB : B ≤ w.heap.size) :
    Calls Try.prog 23 #[v1, v2] w (BoolPost w true) := by
  obtain ⟨A1, k1, rfl, _, hm1⟩ := h1.form
  obtain ⟨A2, k2, rfl, _, hm2⟩ := h2.form
  unfold maxLen at hm1 hm2
  have HS := hid (And.intro h1 h2)
  have b0 : ((n : Int) != (n : Int)) = false := by simp
  clear h1 h2
  go_enter Try.func23, Try.ntmps23
  go_wp2_with fail
  go_loopw [5] (fun iv wr => ∃ (i : Nat), iv = .int .i64 i ∧ i ≤ n ∧ Hid (Below w.heap.size w wr)) (fun iv _ => n - (intOf iv).toNat)
  case atStart => exact ⟨0, rfl, by omega, Below.refl _ _⟩
  case round =>
    obtain ⟨k, rfl, hi, HB⟩ := hrel
    by_cases hlt : k < n
    · obtain ⟨b, o, lg, hd, rfl, hb1, hx, g0, g1⟩ := spcells_at HS.out.1 hlt
      obtain ⟨b', o', lg', hd', rfl, hb2, hx', g0', g1'⟩ := spcells_at HS.out.2 hlt
      rw [hx] at hx'
      have hx'' := Option.some.inj hx'
      simp only [Spt.mk.injEq, bytes_eq_iff] at hx''
      obtain ⟨rfl, rfl⟩ := hx''
      have c0 : wr.cell? ⟨b, o + k * 2, none⟩ = some (.string lg) := (HB.out.cell (p := ⟨b, o + k * 2, none⟩) (by show b < _; omega)).trans g0
      have c1 : wr.cell? ⟨b, o + k * 2 + 1, none⟩ = some (.string hd) := (HB.out.cell (p := ⟨b, o + k * 2 + 1, none⟩) (by show b < _; omega)).trans g1
      have c0' : wr.cell? ⟨b', o' + k * 2, none⟩ = some (.string lg) := (HB.out.cell (p := ⟨b', o' + k * 2, none⟩) (by show b' < _; omega)).trans g0'
      have c1' : wr.cell? ⟨b', o' + k * 2 + 1, none⟩ = some (.string hd) := (HB.out.cell (p := ⟨b', o' + k * 2 + 1, none⟩) (by show b' < _; omega)).trans g1'
      clear hx hx' g0 g1 g0' g1'
      go_wp2_with fail
      go_quiet (fail)
      go_wp2_with fail
      go_roundw
      case rel => exact ⟨k + 1, by go_num, by omega, below_dr HB.out _⟩
      case measure => simp [intOf]; omega
    · go_wp2_with fail
      go_ret
      exact ⟨rfl, HB.out⟩

variable {L : List Lgr} {H : List Hnd} {q : Int} {x : Name}
theorem spots_ok (h : treeOk L H q = true) (hx : nameOk x = true) : spotsT L H q x = spotsI L (pathN (nsOf L) x) := by unfold spotsT; rw [h, hx]; rfl
theorem path_ok (h : treeOk L H q = true) (hx : nameOk x = true) : pathT L H q x = (pathN (nsOf L) x).map (fun i => (nsOf L).getD i []) := by unfold pathT; rw [h, hx]; rfl
theorem path_facts (h : treeOk L H q = true) (hx : nameOk x = true) :
    pathT L H q x = (pathN (nsOf L) x).map (fun i => (nsOf L).getD i []) ∧ spotsT L H q x = spotsI L (pathN (nsOf L) x) ∧ (pathN (nsOf L) x).length ≤ 5 ∧ ∀ i ∈ pathN (nsOf L) x, i < L.length := by
  refine ⟨path_ok h hx, spots_ok h hx, pathF_len _ _ _, ?_⟩
  have h9 : (nsOf L).length = L.length := by unfold nsOf; rw [List.length_map]
  rw [← h9]; exact pathF_lt (tree_nm h).1 _ _ (near_lt (tree_nm h).1 _)
theorem used_eq (h : treeOk L H q = true) : usedT L H q = (H.filter fun y => decide (0 < (usersN L y.nm).length)).map (·.nm) := by
  unfold usedT usedK; rw [h, if_pos rfl, pick_allU, List.take_length]
theorem used_mem (h : treeOk L H q = true) {k : Nat} {y : Hnd} (hk : H[k]? = some y) : decide (y.nm ∈ usedT L H q) = decide (0 < (usersT L H q y.nm).length) := by
  have e : usersT L H q y.nm = usersN L y.nm := by unfold usersT; rw [h]; rfl
  rw [e, used_eq h]
  refine decide_eq_decide.2 ⟨fun hm => ?_, fun hm => ?_⟩
  · obtain ⟨z, hz, hn⟩ := List.mem_map.1 hm
    have := of_decide_eq_true (List.mem_filter.1 hz).2
    rw [← hn]; exact this
  · exact List.mem_map.2 ⟨y, List.mem_filter.2 ⟨List.mem_of_getElem? hk, decide_eq_true hm⟩, rfl⟩
theorem hs_mem {i : Nat} {s : Name} (hs : s ∈ hsAt L i) : ∃ l ∈ L, s ∈ l.hs := by
  unfold hsAt at hs
  by_cases hi : i < L.length
  · have e : (L.map (·.hs)).getD i [] = L[i].hs := by simp [List.getD, hi]
    rw [e] at hs
    exact ⟨L[i], List.getElem_mem hi, hs⟩
  · have e : (L.map (·.hs)).getD i [] = [] := by simp [List.getD, Nat.le_of_not_lt hi]
    rw [e] at hs; simp at hs
theorem spotsI_mem {pl : List Nat} {s : Spt} (hs : s ∈ spotsI L pl) : ∃ i, s.hd ∈ hsAt L i := by
  induction pl with
  | nil => simp [spotsI] at hs
  | cons i r ih =>
    rw [spotsI, List.mem_append] at hs
    rcases hs with hs | hs
    · unfold ownS at hs
      obtain ⟨y, hy, rfl⟩ := List.mem_map.1 hs
      exact ⟨i, hy⟩
    · split at hs
      · simp at hs
      · exact ih hs
theorem spots_used (h : treeOk L H q = true) {s : Spt} (hs : s ∈ spotsT L H q x) : s.hd ∈ usedT L H q := by
  unfold spotsT at hs
  split at hs
  · obtain ⟨i, hi⟩ := spotsI_mem hs
    obtain ⟨l, hl, hm⟩ := hs_mem hi
    have hH : ∃ y ∈ H, y.nm = s.hd := by
      have h' := h
      unfold treeOk hndsOk lgrsOk at h'
      simp only [Bool.and_eq_true, decide_eq_true_eq, List.all_eq_true] at h'
      have h1 := h'.2.2.1 l hl
      unfold lgrOk at h1
      simp only [Bool.and_eq_true, decide_eq_true_eq, List.all_eq_true] at h1
      have h3 := h1.2.2.2.1 _ hm
      unfold hasL at h3
      obtain ⟨y, hy, e⟩ := List.any_eq_true.1 h3
      exact ⟨y, hy, of_decide_eq_true e⟩
    obtain ⟨y, hy, e⟩ := hH
    rw [used_eq h]
    refine List.mem_map.2 ⟨y, List.mem_filter.2 ⟨hy, decide_eq_true ?_⟩, e⟩
    rw [usersN_eq]
    refine List.length_pos_of_mem (List.mem_map.2 ⟨l, List.mem_filter.2 ⟨hl, decide_eq_true ?_⟩, rfl⟩)
    rw [e]; exact hm
  · simp at hs
end Go.Proofs.Ytpfnjkmkenaipaa
