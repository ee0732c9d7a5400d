/-
  FILTERS ASKED: plain: what becomes of a record's level behind filters.
-/
import Derived.Test.YteekkccgdkmjoaaGreatHelps
namespace Go.Proofs.YteekkccgdkmjoaaGreat
open Go.RowKit Nm
set_option linter.unusedSimpArgs false
set_option linter.unusedVariables false

/-- a word is one of a text's -/
def hasW (tx wd : List UInt8) : Bool := decide (wd ∈ splitB 32 tx)
/-- one filter: the level behind it, if the record passes -/
def passF (nm tx : List UInt8) (f : Flt) (lv : Int) : Option Int :=
  if f.k = 0 then (if belowL nm f.nm then some lv else none)
  else if f.k = 1 then (if lv ≤ f.n then some lv else none)
  else if f.k = 2 then (if hasW tx f.nm then none else some lv)
  else if f.k = 3 then some (if lv < f.n then f.n else lv) else some lv
def filtL (nm tx : List UInt8) : List Flt → Int → Option Int
  | [], lv => some lv
  | f :: fs, lv => (passF nm tx f lv).bind (filtL nm tx fs)
theorem filtL_app (nm tx : List UInt8) (a b : List Flt) (lv : Int) : filtL nm tx (a ++ b) lv = (filtL nm tx a lv).bind (filtL nm tx b) := by
  induction a generalizing lv with
  | nil => rfl
  | cons f a ih =>
    show (passF nm tx f lv).bind (filtL nm tx (a ++ b)) = ((passF nm tx f lv).bind (filtL nm tx a)).bind _
    cases passF nm tx f lv with
    | none => rfl
    | some v => exact ih v
theorem filtL_step {nm tx : List UInt8} {fs : List Flt} {k : Nat} {f : Flt} {lv q : Int} (hx : fs[k]? = some f) (h : filtL nm tx (fs.take k) lv = some q) : filtL nm tx (fs.take (k + 1)) lv = passF nm tx f q := by
  rw [List.take_add_one, hx, filtL_app, h]
  show (passF nm tx f q).bind (filtL nm tx []) = _
  cases passF nm tx f q <;> rfl
theorem filtL_dead {nm tx : List UInt8} {fs : List Flt} {k : Nat} {lv : Int} (h : filtL nm tx (fs.take k) lv = none) : filtL nm tx fs lv = none := by
  conv => lhs; rw [← List.take_append_drop k fs]
  rw [filtL_app, h]; rfl
theorem passF_range {nm tx : List UInt8} {f : Flt} {lv q : Int} (hf : fltOk f = true) (h1 : 1 ≤ lv) (h2 : lv ≤ 60) (h : passF nm tx f lv = some q) : 1 ≤ q ∧ q ≤ 60 := by
  unfold passF at h
  split at h
  · split at h <;> (cases h; try exact ⟨h1, h2⟩)
  · split at h
    · split at h <;> (cases h; try exact ⟨h1, h2⟩)
    · split at h
      · split at h <;> (cases h; try exact ⟨h1, h2⟩)
      · split at h
        · rename_i a b c d
          cases h
          unfold fltOk at hf
          rw [if_neg a, if_neg c, if_pos (.inr d)] at hf
          simp only [Bool.and_eq_true, decide_eq_true_eq] at hf
          split <;> omega
        · cases h; exact ⟨h1, h2⟩
theorem filtL_range {nm tx : List UInt8} {fs : List Flt} {lv q : Int} (hf : fs.all fltOk = true) (h1 : 1 ≤ lv) (h2 : lv ≤ 60) (h : filtL nm tx fs lv = some q) : 1 ≤ q ∧ q ≤ 60 := by
  induction fs generalizing lv with
  | nil => cases h; exact ⟨h1, h2⟩
  | cons f fs ih =>
    rw [List.all_cons, Bool.and_eq_true] at hf
    unfold filtL at h
    cases e : passF nm tx f lv with
    | none => rw [e] at h; cases h
    | some v =>
      rw [e] at h
      obtain ⟨a, b⟩ := passF_range hf.1 h1 h2 e
      exact ih hf.2 a b h
/-- the record behind valid filters -/
def filtR (fs : List Flt) (r : Rec) : Option Rec := (filtL r.nm r.tx fs r.lv).map fun v => ⟨r.nm, v, r.tx, r.sq⟩
def filtX (fs : List Flt) (r : Rec) : Option Rec := if filtersOk fs && recOk r then filtR fs r else none
def recZ : Rec := ⟨[], 0, [], 0⟩
def recD (o : Option Rec) : Rec := o.getD recZ
end Go.Proofs.YteekkccgdkmjoaaGreat
