/-
  RECORDS: validRecords, ValidRecords, RecordsOf of both.
-/
import Derived.Test.YtbidlmejonpadaaGSent
namespace Go.Proofs.Ytbidlmejonpadaa
open Go.RowKit Nm
set_option linter.unusedSimpArgs false
set_option linter.unusedVariables false

theorem own_snoc {α : Type} {f : α → List Value} {w : World} {base d : Nat} {T : TypeId} {v : Value} {l : List α} {x : α} (h : w.ownsRow base T d v (l.length + 1) (l.flatMap f ++ f x)) :
    w.ownsRow base T d v (l ++ [x]).length ((l ++ [x]).flatMap f) := by simpa using h
theorem bounded {B n : Nat} (h : n ≤ B) (hB : B ≤ 1048576) : n + 1 ≤ maxLen ∧ (n + 1) * 128 ≤ 140737488355328 := by unfold maxLen; omega
theorem all_bad {α : Type} (f : α → Bool) (l : List α) (k : Nat) (x : α) (hx : l[k]? = some x) (h : f x = false) : l.all f = false := by
  rw [Bool.eq_false_iff]; intro hn
  rw [List.all_eq_true] at hn
  rw [hn x (List.mem_of_getElem? hx)] at h; cases h

end Go.Proofs.Ytbidlmejonpadaa
