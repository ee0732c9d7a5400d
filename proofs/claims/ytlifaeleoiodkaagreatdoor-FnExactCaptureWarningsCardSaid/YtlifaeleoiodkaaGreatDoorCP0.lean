/-
  WARNINGS CAPTURED, plain.
-/
import Derived.Test.YtlifaeleoiodkaaGreatDoorSW4
import Derived.Test.YtlifaeleoiodkaaGreatDoorSN10
namespace Go.Proofs.YtlifaeleoiodkaaGreatDoor
open Go.RowKit Go.Proofs.YtlifaeleoiodkaaGreatDoor.Nm
set_option linter.unusedSimpArgs false
set_option linter.unusedVariables false

/-- the record of a warning -/
def recW (w : Wrn) : Rec := ⟨w.md, 30, w.tx, w.ln⟩
/-- the records of the warnings of these indices -/
def capR (ids : List Int) (l : List Wrn) : List Rec := ids.flatMap fun i => ((l[i.toNat]?).map recW).toList
def capX (L : List Lgr) (H : List Hnd) (q : Int) (rs : List Rul) (l : List Wrn) : List Snt := runX L H q (capR (shX rs l).1 l)

theorem shG_bnd (rs : List Rul) (n : Nat) : ∀ (l : List Wrn) (i : Nat) (out : List Int) (old : List Wrn), i + l.length ≤ n → (∀ x ∈ out, 0 ≤ x ∧ x < (n : Int)) → ∀ x ∈ (shG rs i l out old).1, 0 ≤ x ∧ x < (n : Int) := by
  intro l
  induction l with
  | nil => intro i out old _ h; exact h
  | cons w t ih =>
    intro i out old hi h
    have hi' : i + t.length + 1 ≤ n := by simp at hi; omega
    have hs : ∀ x ∈ out ++ [(i : Int)], 0 ≤ x ∧ x < (n : Int) := by
      intro x hx
      rcases List.mem_append.1 hx with hx | hx
      · exact h x hx
      · rw [List.mem_singleton.1 hx]; omega
    unfold shG
    split
    · exact ih _ _ _ (by omega) h
    · split
      · exact hs
      · split
        · exact ih _ _ _ (by omega) hs
        · split
          · exact ih _ _ _ (by omega) h
          · exact ih _ _ _ (by omega) hs
theorem shX_bnd (rs : List Rul) (l : List Wrn) : ∀ x ∈ (shX rs l).1, 0 ≤ x ∧ x < (l.length : Int) := by
  unfold shX
  split
  · exact shG_bnd rs l.length l 0 [] [] (by omega) (by intro x hx; cases hx)
  · intro x hx; cases hx
theorem capR_snoc {ids : List Int} {l : List Wrn} {k : Nat} {i : Int} {w : Wrn} (hi : ids[k]? = some i) (hw : l[i.toNat]? = some w) : capR (ids.take (k + 1)) l = capR (ids.take k) l ++ [recW w] := by
  unfold capR
  rw [List.take_add_one, hi, List.flatMap_append]
  simp [hw]
theorem capR_len (ids : List Int) (l : List Wrn) : (capR ids l).length ≤ ids.length := by
  unfold capR
  induction ids with
  | nil => simp
  | cons i t ih =>
    rw [List.flatMap_cons, List.length_append, List.length_cons]
    have : ((l[i.toNat]?).map recW).toList.length ≤ 1 := by cases (l[i.toNat]?) <;> simp
    omega
theorem capR_mem {ids : List Int} {l : List Wrn} {r : Rec} (h : r ∈ capR ids l) : ∃ w ∈ l, r = recW w := by
  unfold capR at h
  obtain ⟨i, _, hr⟩ := List.mem_flatMap.1 h
  cases hq : l[i.toNat]? with
  | none => rw [hq] at hr; cases hr
  | some w =>
    rw [hq] at hr
    have e : r = recW w := by simpa using hr
    exact ⟨w, List.mem_of_getElem? hq, e⟩
theorem recW_ok {w : Wrn} (h : wrnOk w = true) : recOk (recW w) = true := by
  unfold wrnOk at h
  unfold recOk recW
  simp only [Bool.and_eq_true, decide_eq_true_eq] at h ⊢
  exact ⟨h.2.1, by omega, by omega, h.1, by omega, h.2.2.2⟩
theorem capR_ok {rs : List Rul} {l : List Wrn} (h : wrnsOk l = true) : recsOk (capR (shX rs l).1 l) = true := by
  unfold recsOk
  simp only [Bool.and_eq_true, List.all_eq_true, decide_eq_true_eq]
  refine ⟨fun r hr => ?_, Nat.le_trans (capR_len _ _) (shX_len rs l)⟩
  obtain ⟨w, hw, rfl⟩ := capR_mem hr
  exact recW_ok (wrns_at h hw)
theorem shX_bad {rs : List Rul} {l : List Wrn} (h : shOk rs l = false) : shX rs l = ([], false) := by unfold shX; rw [h]; rfl
theorem runX_nil (L : List Lgr) (H : List Hnd) (q : Int) : runX L H q [] = [] := by unfold runX; split <;> rfl
theorem capX_bad {L : List Lgr} {H : List Hnd} {q : Int} {rs : List Rul} {l : List Wrn} (h : (treeOk L H q && (rulsOk rs && wrnsOk l)) = false) : capX L H q rs l = [] := by
  unfold capX
  cases ht : treeOk L H q with
  | false => exact run_notree ht
  | true =>
    rw [ht] at h
    rw [shX_bad (show shOk rs l = false from h)]
    exact runX_nil L H q
theorem capX_good {L : List Lgr} {H : List Hnd} {q : Int} {rs : List Rul} {l : List Wrn} (h : wrnsOk l = true) : capX L H q rs l = (capR (shX rs l).1 l).flatMap (sendX L H q) := by
  unfold capX runX
  rw [capR_ok h]; rfl
theorem capR_fit {ids : List Int} {l : List Wrn} (h : ids.length ≤ 12) (hf : WrnsFit l) : RecsFit (capR ids l) := by
  refine ⟨by have := capR_len ids l; unfold maxTxt; omega, fun r hr => ?_⟩
  obtain ⟨w, hw, rfl⟩ := capR_mem hr
  have := hf.2 w hw
  exact ⟨this.2, this.1⟩
end Go.Proofs.YtlifaeleoiodkaaGreatDoor
