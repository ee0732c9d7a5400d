/-
  USERS: the loggers that have a handler, the handlers that have users; plain.
-/
import Derived.Test.YteekkccgdkmjoaaGreatLookS
import Derived.Test.YteekkccgdkmjoaaGreatR3
namespace Go.Proofs.YteekkccgdkmjoaaGreat
open Go.RowKit Nm
set_option linter.unusedSimpArgs false
set_option linter.unusedVariables false

/-- the names of the first loggers that have a handler -/
def usersK (L : List Lgr) (x : Name) (k : Nat) : List Name := (rounds (pickIf L fun _ l => decide (x ∈ l.hs)) k).map (·.nm)
theorem usersK_len (L : List Lgr) (x : Name) (k : Nat) : (usersK L x k).length ≤ k := by
  unfold usersK; rw [List.length_map]; exact rounds_len _ (fun i => pickIf_len _ _ i) k
theorem usersK_zero (L : List Lgr) (x : Name) : usersK L x 0 = [] := rfl
theorem lgr_some {L : List Lgr} {k : Nat} (h : k < L.length) : ∃ l, L[k]? = some l ∧ l.nm = (nsOf L).getD k [] ∧ l.hs = (L.map (·.hs)).getD k [] := by
  refine ⟨L[k], List.getElem?_eq_getElem h, ?_, ?_⟩
  · unfold nsOf; simp [List.getD, h]
  · simp [List.getD, h]
theorem usersK_hit {L : List Lgr} {x : Name} {k : Nat} (h : k < L.length) (hm : x ∈ (L.map (·.hs)).getD k []) : usersK L x (k + 1) = usersK L x k ++ [(nsOf L).getD k []] := by
  obtain ⟨l, e, hn, hh⟩ := lgr_some h
  unfold usersK
  rw [rounds_hit (pickIf_hit e (by rw [hh]; exact decide_eq_true hm)), List.map_append, ← hn]; rfl
theorem usersK_miss {L : List Lgr} {x : Name} {k : Nat} (h : k < L.length) (hm : ¬ x ∈ (L.map (·.hs)).getD k []) : usersK L x (k + 1) = usersK L x k := by
  obtain ⟨l, e, hn, hh⟩ := lgr_some h
  unfold usersK
  rw [rounds_miss (pickIf_miss e (by rw [hh]; exact decide_eq_false hm))]
def usersN (L : List Lgr) (x : Name) : List Name := usersK L x L.length
def usersT (L : List Lgr) (H : List Hnd) (q : Int) (x : Name) : List Name := if treeOk L H q then usersN L x else []
theorem usersT_len (L : List Lgr) (H : List Hnd) (q : Int) (x : Name) : (usersT L H q x).length ≤ 8 := by
  unfold usersT
  split
  · rename_i h
    have h1 := usersK_len L x L.length
    have h2 := (tree_names h).2.2.2.1
    unfold usersN; omega
  · simp
/-- the names of the first handlers that have users -/
def usedK (L : List Lgr) (H : List Hnd) (k : Nat) : List Name := (rounds (pickIf H fun _ h => decide (0 < (usersN L h.nm).length)) k).map (·.nm)
theorem usedK_len (L : List Lgr) (H : List Hnd) (k : Nat) : (usedK L H k).length ≤ k := by
  unfold usedK; rw [List.length_map]; exact rounds_len _ (fun i => pickIf_len _ _ i) k
theorem usedK_hit {L : List Lgr} {H : List Hnd} {k : Nat} {h : Hnd} (e : H[k]? = some h) (hp : 0 < (usersN L h.nm).length) : usedK L H (k + 1) = usedK L H k ++ [h.nm] := by
  unfold usedK
  rw [rounds_hit (pickIf_hit e (decide_eq_true hp)), List.map_append]; rfl
theorem usedK_miss {L : List Lgr} {H : List Hnd} {k : Nat} {h : Hnd} (e : H[k]? = some h) (hp : ¬ 0 < (usersN L h.nm).length) : usedK L H (k + 1) = usedK L H k := by
  unfold usedK
  rw [rounds_miss (pickIf_miss e (decide_eq_false hp))]
def usedT (L : List Lgr) (H : List Hnd) (q : Int) : List Name := if treeOk L H q then usedK L H H.length else []
theorem tree_hlen {L : List Lgr} {H : List Hnd} {q : Int} (h : treeOk L H q = true) : H.length ≤ 6 := by
  unfold treeOk hndsOk at h
  simp only [Bool.and_eq_true, decide_eq_true_eq] at h
  exact h.2.1.2.2
theorem usedT_len (L : List Lgr) (H : List Hnd) (q : Int) : (usedT L H q).length ≤ 6 := by
  unfold usedT
  split
  · rename_i h
    have h1 := usedK_len L H H.length
    have h2 := tree_hlen h
    omega
  · simp
end Go.Proofs.YteekkccgdkmjoaaGreat
