/-
  STORES: PushRecord of the model. By gen_s6.py.
-/
import Derived.Test.YtfjpfdmlcgkfeaaS5
namespace Go.Proofs.Ytfjpfdmlcgkfeaa
open Go.RowKit Nm
set_option linter.unusedSimpArgs false
set_option linter.unusedVariables false

def pushOk (d : Buf) (r : Rec) : Bool := bufOk d && recOk r
def pushXB (d : Buf) (r : Rec) : Buf := if pushOk d r then pushB d r else ⟨0, 0, []⟩
def pushXR (d : Buf) (r : Rec) : List Rec := if pushOk d r then pushR d r else []
theorem push_none {w w2 : World} {e : Ending} (he : e = .returned (.tuple #[.agg #[.int .i64 0, .int .i64 0, .slice none 0 0], .slice none 0 0, .bool false])) (hb : Below w.heap.size w w2) : PushPost w ⟨0, 0, []⟩ [] false e w2 :=
  ⟨_, _, _, _, he, ⟨_, rfl, rfl⟩, rfl, Rows.cons_nil (Rows.one (World.ownsRow_nil _ _ _ _)), hb⟩
theorem bufOk_len {d : Buf} (h : bufOk d = true) : d.rc.length ≤ 12 ∧ (d.rc.length : Int) < d.rm := by
  unfold bufOk at h
  simp only [Bool.and_eq_true, decide_eq_true_eq] at h
  have := h.1.2; have := h.2.2.2.1
  omega

end Go.Proofs.Ytfjpfdmlcgkfeaa
