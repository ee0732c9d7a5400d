/-
  RECORDS: RecordsOf of the program, DropRepeats of both.
-/
import Derived.Test.YtfjpfdmlcgkfeaaUM
namespace Go.Proofs.Ytfjpfdmlcgkfeaa
open Go.RowKit Nm
set_option linter.unusedSimpArgs false
set_option linter.unusedVariables false

/-- is the record at k unlike the one ahead of it? -/
def fresh (l : List Rec) (k : Nat) (r : Rec) : Bool := k == 0 || !(match l[k - 1]? with | some p => alike p r | none => false)
def dropReps (l : List Rec) : List Rec := if recsOk l then rounds (pickIf l (fresh l)) l.length else []
theorem dropReps_len (l : List Rec) : (dropReps l).length ≤ 12 := by
  unfold dropReps
  split
  · rename_i h
    have h1 := rounds_len (pickIf l (fresh l)) (fun i => pickIf_len _ _ i) l.length
    unfold recsOk at h; simp only [Bool.and_eq_true, decide_eq_true_eq] at h
    omega
  · simp
theorem fresh_zero (l : List Rec) (r : Rec) : fresh l 0 r = true := rfl
theorem fresh_succ (l : List Rec) (k : Nat) (p r : Rec) (h : l[k]? = some p) : fresh l (k + 1) r = !alike p r := by unfold fresh; simp [h]
theorem alike_comm (x y : Rec) : alike x y = alike y x := by
  unfold alike; rw [Bool.eq_iff_iff]; simp only [Bool.and_eq_true, decide_eq_true_eq]; constructor <;> rintro ⟨a, b, c⟩ <;> exact ⟨a.symm, b.symm, c.symm⟩

end Go.Proofs.Ytfjpfdmlcgkfeaa
