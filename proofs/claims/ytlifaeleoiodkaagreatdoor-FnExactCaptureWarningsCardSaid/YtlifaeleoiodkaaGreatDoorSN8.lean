/-
  RECORDS SENT: the model's SendRecord.
-/
import Derived.Test.YtlifaeleoiodkaaGreatDoorSN7
namespace Go.Proofs.YtlifaeleoiodkaaGreatDoor
open Go.RowKit Go.Proofs.YtlifaeleoiodkaaGreatDoor.Nm
set_option linter.unusedSimpArgs false
set_option linter.unusedVariables false

theorem sendX_notree {L : List Lgr} {H : List Hnd} {q : Int} {r : Rec} (h : treeOk L H q = false) : sendX L H q r = [] := by unfold sendX ocX; rw [h]; rfl
theorem sendX_norec {L : List Lgr} {H : List Hnd} {q : Int} {r : Rec} (h : recOk r = false) : sendX L H q r = [] := by unfold sendX ocX; rw [h, Bool.and_false]; rfl
end Go.Proofs.YtlifaeleoiodkaaGreatDoor
