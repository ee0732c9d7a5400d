/-
  PLAIN: what the looks at a tree answer.
-/
import Derived.Test.YtlhelhfaogcibaaT9
namespace Go.Proofs.Ytlhelhfaogcibaa
open Nm
set_option linter.unusedSimpArgs false
set_option linter.unusedVariables false

def nsOf (L : List Lgr) : List Name := L.map (·.nm)
def nearestT (L : List Lgr) (H : List Hnd) (q : Int) (x : Name) : Name := if treeOk L H q && nameOk x then (nsOf L).getD (nearN (nsOf L) x) [] else []
def pathT (L : List Lgr) (H : List Hnd) (q : Int) (x : Name) : List Name := if treeOk L H q && nameOk x then (pathN (nsOf L) x).map (fun i => (nsOf L).getD i []) else []
def parentB (L : List Lgr) (H : List Hnd) (q : Int) (x : Name) : Bool := treeOk L H q && (!decide (x = []) && decide (x ∈ nsOf L))
def parentT (L : List Lgr) (H : List Hnd) (q : Int) (x : Name) : Name := if parentB L H q x then (nsOf L).getD (upN (nsOf L) (nearN (nsOf L) x)) [] else []
def childOk (ns : List Name) (x y : Name) : Bool := !decide (y = []) && decide (ns.getD (nearN ns (aboveL y)) [] = x)
def childrenT (L : List Lgr) (H : List Hnd) (q : Int) (x : Name) : List Name := if treeOk L H q then (nsOf L).filter (childOk (nsOf L) x) else []
def branchT (L : List Lgr) (H : List Hnd) (q : Int) (x : Name) : List Name := if treeOk L H q && nameOk x then (nsOf L).filter (fun y => belowL y x) else []
def lvAt (L : List Lgr) (k : Nat) : Int := (L.map (·.lv)).getD k 0
def offAt (L : List Lgr) (k : Nat) : Bool := (L.map (·.off)).getD k false
def levelT (L : List Lgr) (H : List Hnd) (q : Int) (x : Name) : Int := if treeOk L H q && nameOk x then levelN (nsOf L) (lvAt L) x else -1
def offT (L : List Lgr) (x : Name) : Bool := decide (x ∈ nsOf L) && offAt L (nearN (nsOf L) x)
def enabledT (L : List Lgr) (q : Int) (x : Name) (lv : Int) : Bool := !offT L x && (decide (q < lv) && decide (levelN (nsOf L) (lvAt L) x ≤ lv))
def isEnabledT (L : List Lgr) (H : List Hnd) (q : Int) (x : Name) (lv : Int) : Bool := (treeOk L H q && nameOk x) && ((decide (1 ≤ lv) && decide (lv ≤ 60)) && enabledT L q x lv)

theorem tree_ns {L : List Lgr} {H : List Hnd} {q : Int} (h : treeOk L H q = true) : (nsOf L)[0]? = some [] ∧ (nsOf L).Nodup ∧ (∀ z ∈ nsOf L, nameOk z = true) ∧ (nsOf L).length = L.length ∧ L.length ≤ 8 ∧ 1 ≤ L.length := by
  obtain ⟨a, b, c, d, e, _⟩ := tree_names h
  exact ⟨a, b, c, by simp [nsOf], d, e⟩
/-- those of the first k names that p takes -/
def takeF (p : Name → Bool) (ns : List Name) (k : Nat) : List Name := (ns.take k).filter p
theorem takeF_len (p : Name → Bool) (ns : List Name) (k : Nat) : (takeF p ns k).length ≤ k := by
  unfold takeF
  have h1 := List.length_filter_le p (ns.take k)
  have h2 := List.length_take_le k ns
  exact Nat.le_trans h1 h2
theorem takeF_hit {p : Name → Bool} {ns : List Name} {k : Nat} {y : Name} (h : ns[k]? = some y) (hp : p y = true) : takeF p ns (k + 1) = takeF p ns k ++ [y] := by
  unfold takeF
  rw [List.take_add_one, h, List.filter_append]
  simp [hp]
theorem takeF_miss {p : Name → Bool} {ns : List Name} {k : Nat} {y : Name} (h : ns[k]? = some y) (hp : p y = false) : takeF p ns (k + 1) = takeF p ns k := by
  unfold takeF
  rw [List.take_add_one, h, List.filter_append]
  simp [hp]
theorem takeF_all {p : Name → Bool} {ns : List Name} {k : Nat} (h : ns.length ≤ k) : takeF p ns k = ns.filter p := by
  unfold takeF; rw [List.take_of_length_le h]
theorem takeF_zero (p : Name → Bool) (ns : List Name) : takeF p ns 0 = [] := rfl
theorem pathT_len (L : List Lgr) (H : List Hnd) (q : Int) (x : Name) : (pathT L H q x).length ≤ 5 := by
  unfold pathT
  split
  · rw [List.length_map]; exact pathF_len _ _ _
  · simp
theorem childrenT_len (L : List Lgr) (H : List Hnd) (q : Int) (x : Name) : (childrenT L H q x).length ≤ 8 := by
  unfold childrenT
  split
  · rename_i h
    have h1 := List.length_filter_le (childOk (nsOf L) x) (nsOf L)
    have h2 := (tree_names h).2.2.2.1
    have h3 : (nsOf L).length = L.length := by simp [nsOf]
    rw [h3] at h1
    exact Nat.le_trans h1 h2
  · simp
theorem branchT_len (L : List Lgr) (H : List Hnd) (q : Int) (x : Name) : (branchT L H q x).length ≤ 8 := by
  unfold branchT
  split
  · rename_i h
    simp only [Bool.and_eq_true] at h
    have h1 := List.length_filter_le (fun y => belowL y x) (nsOf L)
    have h2 := (tree_names h.1).2.2.2.1
    have h3 : (nsOf L).length = L.length := by simp [nsOf]
    rw [h3] at h1
    exact Nat.le_trans h1 h2
  · simp
end Go.Proofs.Ytlhelhfaogcibaa
