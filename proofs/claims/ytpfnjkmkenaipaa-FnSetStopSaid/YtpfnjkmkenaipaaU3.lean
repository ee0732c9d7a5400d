/-
  SPOTS, plain: what SpotsOf gives, and how many.
-/
import Derived.Test.YtpfnjkmkenaipaaLookS
import Derived.Test.YtpfnjkmkenaipaaGSpot
namespace Go.Proofs.Ytpfnjkmkenaipaa
open Go.RowKit Nm
set_option linter.unusedSimpArgs false
set_option linter.unusedVariables false

theorem nodup_len {α : Type} [DecidableEq α] : ∀ (a b : List α), a.Nodup → (∀ x ∈ a, x ∈ b) → a.length ≤ b.length := by
  intro a
  induction a with
  | nil => intro b _ _; simp
  | cons x a ih =>
    intro b hn hs
    rw [List.nodup_cons] at hn
    have hx : x ∈ b := hs x (List.mem_cons_self ..)
    have h1 := ih (b.erase x) hn.2 (fun y hy => (List.mem_erase_of_ne (fun e => hn.1 (by rw [← e]; exact hy))).2 (hs y (List.mem_cons_of_mem _ hy)))
    rw [List.length_erase_of_mem hx] at h1
    have : 0 < b.length := List.length_pos_of_mem hx
    rw [List.length_cons]; omega
theorem lgr_hs_len {L : List Lgr} {H : List Hnd} {q : Int} (h : treeOk L H q = true) {l : Lgr} (hl : l ∈ L) : l.hs.length ≤ 6 := by
  unfold treeOk hndsOk lgrsOk at h
  simp only [Bool.and_eq_true, decide_eq_true_eq, List.all_eq_true] at h
  have h1 := h.2.2.1 l hl
  unfold lgrOk at h1
  simp only [Bool.and_eq_true, decide_eq_true_eq, List.all_eq_true] at h1
  have h2 := nodup_len l.hs (H.map (·.nm)) h1.2.2.2.2 (fun x hx => by
    have h3 := h1.2.2.2.1 x hx
    unfold hasL at h3
    obtain ⟨y, hy, e⟩ := List.any_eq_true.1 h3
    exact List.mem_map.2 ⟨y, hy, of_decide_eq_true e⟩)
  rw [List.length_map] at h2
  have := h.2.1.2.2
  omega
theorem hsAt_len {L : List Lgr} {H : List Hnd} {q : Int} (h : treeOk L H q = true) (i : Nat) : (hsAt L i).length ≤ 6 := by
  unfold hsAt
  by_cases hi : i < L.length
  · have e : (L.map (·.hs)).getD i [] = L[i].hs := by simp [List.getD, hi]
    rw [e]; exact lgr_hs_len h (List.getElem_mem hi)
  · have e : (L.map (·.hs)).getD i [] = [] := by simp [List.getD, Nat.le_of_not_lt hi]
    rw [e]; simp
/-- the spots of logger i alone: the first m -/
def ownK (L : List Lgr) (i m : Nat) : List Spt := ((hsAt L i).take m).map fun h => ⟨(nsOf L).getD i [], h⟩
def ownS (L : List Lgr) (i : Nat) : List Spt := (hsAt L i).map fun h => ⟨(nsOf L).getD i [], h⟩
theorem ownK_zero (L : List Lgr) (i : Nat) : ownK L i 0 = [] := rfl
theorem ownK_step {L : List Lgr} {i m : Nat} {x : Name} (h : (hsAt L i)[m]? = some x) : ownK L i (m + 1) = ownK L i m ++ [⟨(nsOf L).getD i [], x⟩] := by
  unfold ownK; rw [List.take_add_one, h, List.map_append]; rfl
theorem ownK_all {L : List Lgr} {i m : Nat} (h : (hsAt L i).length ≤ m) : ownK L i m = ownS L i := by unfold ownK ownS; rw [List.take_of_length_le h]
theorem ownK_len (L : List Lgr) (i m : Nat) : (ownK L i m).length ≤ m := by unfold ownK; rw [List.length_map, List.length_take]; omega
/-- the spots of the loggers of a path, up to one with Stop -/
def spotsI (L : List Lgr) : List Nat → List Spt
  | [] => []
  | i :: r => ownS L i ++ (if stopAt L i then [] else spotsI L r)
theorem spotsI_len {L : List Lgr} (h : ∀ i, (hsAt L i).length ≤ 6) (pl : List Nat) : (spotsI L pl).length ≤ 6 * pl.length := by
  induction pl with
  | nil => simp [spotsI]
  | cons i r ih =>
    unfold spotsI ownS
    rw [List.length_append, List.length_map, List.length_cons]
    have := h i
    split
    · simp; omega
    · omega
def spotsT (L : List Lgr) (H : List Hnd) (q : Int) (x : Name) : List Spt := if treeOk L H q && nameOk x then spotsI L (pathN (nsOf L) x) else []
theorem spotsT_len (L : List Lgr) (H : List Hnd) (q : Int) (x : Name) : (spotsT L H q x).length ≤ 30 := by
  unfold spotsT
  split
  · rename_i h
    simp only [Bool.and_eq_true] at h
    have h1 := spotsI_len (hsAt_len h.1) (pathN (nsOf L) x)
    have h2 : (pathN (nsOf L) x).length ≤ 5 := pathF_len _ _ _
    omega
  · simp
/-- what is left of the spots at a node -/
def spotsR (L : List Lgr) (f : Nat) : Option Nat → List Spt
  | none => []
  | some k => spotsI L (pathF (nsOf L) f k)
theorem spotsR_len {L : List Lgr} (h : ∀ i, (hsAt L i).length ≤ 6) (f k : Nat) : (spotsI L (pathF (nsOf L) 4 k)).length ≤ 30 := by
  have h1 := spotsI_len h (pathF (nsOf L) 4 k)
  have h2 : (pathF (nsOf L) 4 k).length ≤ 5 := pathF_len _ _ _
  omega
end Go.Proofs.Ytpfnjkmkenaipaa
