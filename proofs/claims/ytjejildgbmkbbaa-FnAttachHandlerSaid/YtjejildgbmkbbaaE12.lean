/-
  PLAIN: a branch is the logger and the branches of its children; the logger is on the path of each of the branch.
-/
import Derived.Test.YtjejildgbmkbbaaE9
namespace Go.Proofs.Ytjejildgbmkbbaa
open Go.RowKit Nm
set_option linter.unusedSimpArgs false
set_option linter.unusedVariables false

def upName (ns : List Name) (y : Name) : Name := ns.getD (nearN ns (aboveL y)) []
theorem up_mem {ns : List Name} (h0 : ns[0]? = some []) (y : Name) : upName ns y ∈ ns := getD_mem (near_lt h0 _)
theorem up_below {ns : List Name} (h0 : ns[0]? = some []) {y z : Name} (hy : nameOk y = true) (hz : z ∈ ns) (hne : y ≠ z) : belowL y z = belowL (upName ns y) z := by
  rw [← below_above hy hne]; exact near_below h0 hz
theorem up_parts {ns : List Name} (h0 : ns[0]? = some []) (hok : ∀ z ∈ ns, nameOk z = true) {y : Name} (hy : y ∈ ns) (hne : y ≠ []) : (partsL (upName ns y)).length < (partsL y).length := by
  obtain ⟨k, hk, hq⟩ := List.getElem_of_mem hy
  have g : ns.getD k [] = y := by simp [List.getD, hk, hq]
  have h := depth_up h0 hok hk (by rw [g]; exact hne)
  have e1 : depthN ns k = (partsL y).length := by unfold depthN; rw [g]
  have e2 : depthN ns (upN ns k) = (partsL (upName ns y)).length := by unfold depthN upN upName; rw [g]
  rw [e1, e2] at h
  exact h
theorem childOk_iff {ns : List Name} {x c : Name} : childOk ns x c = true ↔ c ≠ [] ∧ upName ns c = x := by
  unfold childOk upName
  simp only [Bool.and_eq_true, Bool.not_eq_true', decide_eq_false_iff_not, decide_eq_true_eq]
theorem below_parts {a b : Name} (h : belowL a b = true) : (partsL b).length ≤ (partsL a).length := ((belowL_iff a b).1 h).length_le
theorem branch_step {ns : List Name} (h0 : ns[0]? = some []) (hnd : ns.Nodup) (hok : ∀ z ∈ ns, nameOk z = true) {x : Name} (hx : x ∈ ns) :
    ∀ (n : Nat) (y : Name), y ∈ ns → (partsL y).length ≤ n → (if belowL y x = true then 1 else 0) = (if y = x then 1 else 0) + ns.countP (fun c => childOk ns x c && belowL y c) := by
  intro n
  induction n with
  | zero =>
    intro y hy hn
    have e : y = [] := (partsL_nil_iff _).1 (List.eq_nil_of_length_eq_zero (by omega))
    subst e
    have e1 : ns.countP (fun c => childOk ns x c && belowL [] c) = 0 := by
      refine List.countP_eq_zero.2 fun c hc h => ?_
      simp only [Bool.and_eq_true] at h
      have h1 := (childOk_iff.1 h.1).1
      exact h1 (List.eq_nil_of_length_eq_zero (Nat.le_zero.1 (belowL_pre h.2).length_le))
    rw [e1]
    by_cases h : x = []
    · subst h; simp [belowL_self]
    · have h2 : belowL [] x = false := by
        cases hb : belowL [] x with
        | false => rfl
        | true => exact absurd (List.eq_nil_of_length_eq_zero (Nat.le_zero.1 (belowL_pre hb).length_le)) h
      rw [h2, if_neg (by decide), if_neg (fun e => h e.symm)]
  | succ n ih =>
    intro y hy hn
    by_cases hy0 : y = []
    · exact ih y hy (by rw [hy0]; have := (partsL_nil_iff ([] : Name)).2 rfl; rw [this]; simp)
    · have hu := up_parts h0 hok hy hy0
      have hum := up_mem h0 y
      have hyn := hok y hy
      by_cases hyx : y = x
      · subst hyx
        have e1 : ns.countP (fun c => childOk ns y c && belowL y c) = 0 := by
          refine List.countP_eq_zero.2 fun c hc h => ?_
          simp only [Bool.and_eq_true] at h
          obtain ⟨hc0, hcu⟩ := childOk_iff.1 h.1
          have h1 := up_parts h0 hok hc hc0
          rw [hcu] at h1
          have := below_parts h.2
          omega
        rw [e1, belowL_self]; simp
      · have IH := ih (upName ns y) hum (by omega)
        rw [up_below h0 hyn hx hyx, IH]
        rw [if_neg hyx, Nat.zero_add]
        have e2 := count_or (fun c => childOk ns x c && belowL y c) (fun c => decide (c = y) && decide (upName ns y = x)) (fun c => childOk ns x c && belowL (upName ns y) c) ns (fun c hc => ?_)
        · rw [e2]
          congr 1
          by_cases hux : upName ns y = x
          · rw [if_pos hux]
            have e3 : ns.countP (fun c => decide (c = y) && decide (upName ns y = x)) = ns.count y := by
              unfold List.count
              refine List.countP_congr fun c _ => ?_
              simp [hux]
            rw [e3, hnd.count, if_pos hy]
          · rw [if_neg hux]
            refine (List.countP_eq_zero.2 fun c hc h => ?_).symm
            simp [hux] at h
        · have huy : belowL (upName ns y) y = false := by
            cases hb : belowL (upName ns y) y with
            | false => rfl
            | true => have := below_parts hb; omega
          by_cases hcy : c = y
          · subst hcy
            have e4 : childOk ns x c = decide (upName ns c = x) := by
              unfold childOk upName
              rw [decide_eq_false hy0]; rfl
            rw [e4, huy, belowL_self]
            simp
          · rw [up_below h0 hyn hc (fun e => hcy e.symm)]
            rw [decide_eq_false hcy]
            simp
theorem sum_plusB {β : Type} (f g : β → Nat) (ys : List β) : (ys.map (fun y => f y + g y)).sum = (ys.map f).sum + (ys.map g).sum := by
  induction ys with
  | nil => rfl
  | cons a ys ih => simp only [List.map_cons, List.sum_cons, ih]; omega
theorem sum_indB {β : Type} (p : β → Bool) (ys : List β) : (ys.map (fun y => if p y = true then 1 else 0)).sum = ys.countP p := by
  induction ys with
  | nil => rfl
  | cons a ys ih => simp only [List.map_cons, List.sum_cons, ih, List.countP_cons]; omega
theorem sum_swapB {α β : Type} (c : α → β → Bool) (zs : List α) (ys : List β) : (zs.map (fun z => ys.countP (c z))).sum = (ys.map (fun y => zs.countP (fun z => c z y))).sum := by
  induction zs with
  | nil => induction ys with
    | nil => rfl
    | cons a ys ih => simpa using ih
  | cons z zs ih =>
    rw [List.map_cons, List.sum_cons, ih, ← sum_indB (c z) ys, ← sum_plusB]
    congr 1
    refine List.map_congr_left fun y _ => ?_
    rw [List.countP_cons]; omega
theorem sum_filter {α : Type} (p : α → Bool) (f : α → Nat) (l : List α) : ((l.filter p).map f).sum = (l.map (fun c => if p c = true then f c else 0)).sum := by
  induction l with
  | nil => rfl
  | cons a l ih =>
    rw [List.filter_cons]
    by_cases h : p a = true
    · rw [if_pos h]; simp only [List.map_cons, List.sum_cons, ih]; rw [if_pos h]
    · rw [if_neg h, ih]; simp only [List.map_cons, List.sum_cons]; rw [if_neg h, Nat.zero_add]
theorem branchT_ok {L : List Lgr} {H : List Hnd} {q : Int} {x : Name} (h : treeOk L H q = true) (hx : nameOk x = true) : branchT L H q x = (nsOf L).filter (fun y => belowL y x) := by
  unfold branchT; rw [h, hx]; rfl
theorem childrenT_ok {L : List Lgr} {H : List Hnd} {q : Int} {x : Name} (h : treeOk L H q = true) : childrenT L H q x = (nsOf L).filter (childOk (nsOf L) x) := by
  unfold childrenT; rw [h]; rfl
/-- a branch has as many loggers as the branches of the children, and one -/
theorem branch_sum {L : List Lgr} {H : List Hnd} {q : Int} {x : Name} (h : treeOk L H q = true) (hx : x ∈ nsOf L) : ((childrenT L H q x).map (fun c => (branchT L H q c).length)).sum + 1 = (branchT L H q x).length := by
  obtain ⟨h0, hnd, hnm⟩ := tree_nm h
  rw [branchT_ok h (hnm x hx), childrenT_ok h, ← List.countP_eq_length_filter]
  have e1 : ((nsOf L).filter (childOk (nsOf L) x)).map (fun c => (branchT L H q c).length) = ((nsOf L).filter (childOk (nsOf L) x)).map (fun c => (nsOf L).countP (fun y => belowL y c)) := by
    refine List.map_congr_left fun c hc => ?_
    rw [branchT_ok h (hnm c (List.mem_filter.1 hc).1), List.countP_eq_length_filter]
  rw [e1, sum_filter]
  have e2 : (nsOf L).map (fun c => if childOk (nsOf L) x c = true then (nsOf L).countP (fun y => belowL y c) else 0) = (nsOf L).map (fun c => (nsOf L).countP (fun y => childOk (nsOf L) x c && belowL y c)) := by
    refine List.map_congr_left fun c _ => ?_
    cases childOk (nsOf L) x c with
    | true => simp
    | false => simp
  have e9 : ((nsOf L).map (fun y => (nsOf L).countP (fun c => childOk (nsOf L) x c && belowL y c))).sum = ((nsOf L).map (fun c => (nsOf L).countP (fun y => childOk (nsOf L) x c && belowL y c))).sum :=
    (sum_swapB (fun c y => childOk (nsOf L) x c && belowL y c) (nsOf L) (nsOf L)).symm
  rw [e2]
  have e3 : (nsOf L).map (fun y => if belowL y x = true then 1 else 0) = (nsOf L).map (fun y => (if y = x then 1 else 0) + (nsOf L).countP (fun c => childOk (nsOf L) x c && belowL y c)) :=
    List.map_congr_left fun y hy => branch_step h0 hnd hnm hx _ y hy (Nat.le_refl _)
  have e4 := congrArg List.sum e3
  rw [sum_plusB, sum_indB (fun y => belowL y x)] at e4
  have e5 : ((nsOf L).map (fun y => if y = x then 1 else 0)).sum = 1 := by
    have e6 := sum_indB (fun y => decide (y = x)) (nsOf L)
    have e7 : (nsOf L).countP (fun y => decide (y = x)) = (nsOf L).count x := by
      unfold List.count
      refine List.countP_congr fun y _ => ?_
      simp
    rw [e7, hnd.count, if_pos hx] at e6
    refine Eq.trans ?_ e6
    congr 1
    refine List.map_congr_left fun y _ => ?_
    simp
  refine Eq.trans (congrArg (· + 1) e9.symm) ?_
  rw [e4, e5, Nat.add_comm]
theorem path_mem {ns : List Name} (h0 : ns[0]? = some []) (hok : ∀ z ∈ ns, nameOk z = true) :
    ∀ (f k : Nat), k < ns.length → depthN ns k ≤ f → ∀ z ∈ ns, belowL (ns.getD k []) z = true → z ∈ (pathF ns f k).map (fun i => ns.getD i []) := by
  intro f
  induction f with
  | zero =>
    intro k hk hd z hz hb
    have e : ns.getD k [] = [] := (partsL_nil_iff _).1 (List.eq_nil_of_length_eq_zero (by unfold depthN at hd; omega))
    rw [e] at hb
    have : z = [] := List.eq_nil_of_length_eq_zero (Nat.le_zero.1 (belowL_pre hb).length_le)
    subst this
    exact List.mem_map.2 ⟨k, by simp [pathF], e⟩
  | succ f ih =>
    intro k hk hd z hz hb
    rw [pathF_succ]
    by_cases hc : ns.getD k [] = []
    · rw [if_pos hc]
      rw [hc] at hb
      have : z = [] := List.eq_nil_of_length_eq_zero (Nat.le_zero.1 (belowL_pre hb).length_le)
      subst this
      exact List.mem_map.2 ⟨k, by simp, hc⟩
    · rw [if_neg hc, List.map_cons]
      by_cases hzk : z = ns.getD k []
      · rw [hzk]; exact List.mem_cons_self ..
      · refine List.mem_cons_of_mem _ (ih (upN ns k) (near_lt h0 _) (by have := depth_up h0 hok hk hc; omega) z hz ?_)
        have h := up_below h0 (hok _ (getD_mem hk)) hz (fun e => hzk e.symm)
        rw [hb] at h
        exact h.symm
/-- the logger is on the path of each of its branch -/
theorem branch_path {L : List Lgr} {H : List Hnd} {q : Int} {x y : Name} (h : treeOk L H q = true) (hx : x ∈ nsOf L) (hy : y ∈ branchT L H q x) : x ∈ pathT L H q y ∧ y.length ≤ 100 ∧ y ∈ nsOf L := by
  obtain ⟨h0, hnd, hnm⟩ := tree_nm h
  rw [branchT_ok h (hnm x hx)] at hy
  obtain ⟨hm, hb⟩ := List.mem_filter.1 hy
  have hlt := near_lt h0 y
  have e : pathT L H q y = (pathF (nsOf L) 4 (nearN (nsOf L) y)).map (fun i => (nsOf L).getD i []) := by unfold pathT pathN; rw [h, hnm y hm]; rfl
  refine ⟨?_, by have := name_size _ (hnm y hm); omega, hm⟩
  rw [e]
  refine path_mem h0 hnm 4 _ hlt (depth_le hnm _) x hx ?_
  rw [← near_below h0 hx]
  exact hb
theorem branch_none {L : List Lgr} {H : List Hnd} {q : Int} {x : Name} (hx : x ∉ nsOf L) : x ∉ branchT L H q x := by
  unfold branchT
  split
  · exact fun h => hx (List.mem_filter.1 h).1
  · simp
theorem child_in {L : List Lgr} {H : List Hnd} {q : Int} {x c : Name} (h : treeOk L H q = true) (hc : c ∈ childrenT L H q x) : c.length ≤ 100 := by
  obtain ⟨h0, hnd, hnm⟩ := tree_nm h
  rw [childrenT_ok h] at hc
  have := name_size _ (hnm c (List.mem_filter.1 hc).1)
  omega
end Go.Proofs.Ytjejildgbmkbbaa
