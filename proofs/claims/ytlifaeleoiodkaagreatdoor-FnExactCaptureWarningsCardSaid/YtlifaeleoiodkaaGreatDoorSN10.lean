/-
  RECORDS SENT: RunRecords: the model's, and both as the exact law takes them.
-/
import Derived.Test.YtlifaeleoiodkaaGreatDoorSN9
import Derived.Test.YtlifaeleoiodkaaGreatDoorKRecs
namespace Go.Proofs.YtlifaeleoiodkaaGreatDoor
open Go.RowKit Go.Proofs.YtlifaeleoiodkaaGreatDoor.Nm
set_option linter.unusedSimpArgs false
set_option linter.unusedVariables false

theorem run_notree {L : List Lgr} {H : List Hnd} {q : Int} {rs : List Rec} (h : treeOk L H q = false) : runX L H q rs = [] := by
  unfold runX
  split
  · rw [List.flatMap_eq_nil_iff]; exact fun r _ => sendX_notree h
  · rfl
theorem runX_fit (L : List Lgr) (H : List Hnd) (q : Int) {rs : List Rec} (h : ∀ r ∈ rs, r.nm.length ≤ 1048576 ∧ r.tx.length ≤ 1048576) : SentsFit (runX L H q rs) := by
  unfold runX
  split
  · rename_i h9
    refine ⟨Nat.le_trans (run_len L H q rs) (by have := recsOk_len h9; unfold maxTxt; omega), fun x hx => ?_⟩
    obtain ⟨r, hr, hx⟩ := List.mem_flatMap.1 hx
    exact (sendX_fit L H q (h r hr).1 (h r hr).2).2 x hx
  · exact SentsFit.nil
theorem implRunX_c {w : World} {v v2 : Value} {L : List Lgr} {H : List Hnd} {q : Int} {rs : List Rec} (h : TreeIn w w.heap.size v L H q) (hr : RecsIn w w.heap.size v2 rs) :
    Calls Tryz.prog 27 #[v, v2] w (SentsPost w (runX L H q rs)) :=
  (implRunRecords_c h hr.1 (Nat.le_refl _)).mono fun _ _ h => sents_post h
end Go.Proofs.YtlifaeleoiodkaaGreatDoor
