/-
  WHAT IS SENT, plain: its levels, its spots, its reasons; the parts of a list of records.
-/
import Derived.Test.YtioegkcekbkblaaGreatZxSNM
import Derived.Test.YtioegkcekbkblaaGreatZxSpotLaws
namespace Go.Proofs.YtioegkcekbkblaaGreat
open Go.RowKit Go.Proofs.YtioegkcekbkblaaGreat.Nm
set_option linter.unusedSimpArgs false
set_option linter.unusedVariables false

theorem rec_name {r : Rec} (h : recOk r = true) : nameOk r.nm = true ∧ 1 ≤ r.lv ∧ r.lv ≤ 60 := by
  unfold recOk at h
  simp only [Bool.and_eq_true, decide_eq_true_eq] at h
  exact ⟨h.1, h.2.1, h.2.2.1⟩
theorem spX_of {L : List Lgr} {H : List Hnd} {q : Int} {x : List UInt8} (ht : treeOk L H q = true) (hx : nameOk x = true) : (spotsT L H q x = [] ∧ spX L x = [⟨[], lastL⟩]) ∨ (spotsT L H q x ≠ [] ∧ spX L x = spotsT L H q x) := by
  rw [spots_ok ht hx]
  unfold spX
  by_cases h : spotsI L (pathN (nsOf L) x) = []
  · rw [if_pos h]; exact .inl ⟨h, rfl⟩
  · rw [if_neg h]; exact .inr ⟨h, rfl⟩
/-- how many of the first k are sent -/
def atK (X : List Oc) (k : Nat) : Nat := ((X.take k).filter fun o => o.kd == 0).length
theorem atK_step {X : List Oc} {k : Nat} {o : Oc} (h : X[k]? = some o) : atK X (k + 1) = atK X k + if o.kd = 0 then 1 else 0 := by
  unfold atK
  rw [List.take_add_one, h, List.filter_append, List.length_append]
  congr 1
  show (List.filter (fun o : Oc => o.kd == 0) [o]).length = _
  by_cases hk : o.kd = 0
  · simp [hk]
  · simp [hk]
theorem atK_le (X : List Oc) (k : Nat) : atK X k ≤ k := by
  unfold atK
  refine Nat.le_trans (List.length_filter_le _ _) ?_
  rw [List.length_take]; omega
theorem atK_end {nm tx : List UInt8} {sq : Int} {X : List Oc} {k : Nat} (h : X.length ≤ k) : atK X k = (sentOf nm tx sq X).length := by
  unfold atK sentOf
  rw [List.take_of_length_le h, List.length_map]
theorem sent_at {nm tx : List UInt8} {sq : Int} {X : List Oc} {k : Nat} {o : Oc} (h : X[k]? = some o) (hk : o.kd = 0) : (sentOf nm tx sq X)[atK X k]? = some (sent1 nm tx sq o) := by
  have hlt := (List.getElem?_eq_some_iff.1 h).1
  have he := (List.getElem?_eq_some_iff.1 h).2
  have e : X = X.take k ++ o :: X.drop (k + 1) := by
    conv => lhs; rw [← List.take_append_drop k X]
    rw [List.drop_eq_getElem_cons hlt, he]
  unfold sentOf
  rw [List.getElem?_map]
  have e2 : (X.filter fun o => o.kd == 0) = ((X.take k).filter fun o => o.kd == 0) ++ o :: ((X.drop (k + 1)).filter fun o => o.kd == 0) := by
    conv => lhs; rw [e]
    rw [List.filter_append, List.filter_cons, if_pos (by simpa using hk)]
  rw [e2]
  unfold atK
  rw [List.getElem?_append_right (Nat.le_refl _), Nat.sub_self]
  rfl
theorem oc_len {L : List Lgr} {H : List Hnd} {q : Int} {r : Rec} (ht : treeOk L H q = true) (hr : recOk r = true) : (ocX L H q r).length = 1 ∨ (ocX L H q r).length = (spotsT L H q r.nm).length := by
  unfold ocX
  rw [ht, hr]
  simp only [Bool.and_self, if_true]
  split
  · rw [outs_len]
    rcases spX_of ht (rec_name hr).1 with ⟨_, e⟩ | ⟨_, e⟩
    · left; rw [e]; rfl
    · right; rw [e]
  · left; rfl
end Go.Proofs.YtioegkcekbkblaaGreat
