/-
  HELPERS of the drawn laws of what is sent. By gen_sr.py.
-/
import Derived.Test.YtioegkcekbkblaaGreatZxSR0
import Derived.Test.YtioegkcekbkblaaGreatZxUM
import Derived.Test.YtioegkcekbkblaaGreatZxE13
namespace Go.Proofs.YtioegkcekbkblaaGreat
open Go.RowKit Go.Proofs.YtioegkcekbkblaaGreat.Nm
set_option linter.unusedSimpArgs false
set_option linter.unusedVariables false

theorem rec_lit (W : World) (nm tx : ByteArray) (lv sq : Int) : (W.alloc (.cells #[.string nm, .int .i64 lv, .string tx, .int .i64 sq] 28)).ownsRow W.heap.size 28 4 (.slice (some ⟨W.heap.size, 0, none⟩) 1 1) 1 (([⟨nm.data.toList, lv, tx.data.toList, sq⟩] : List Rec).flatMap rcells) := by
  have h := World.ownsRow_lit (e := 28) (size := 4) (base := W.heap.size) W #[.string nm, .int .i64 lv, .string tx, .int .i64 sq] 1 (Nat.le_refl _) (by unfold maxLen; omega) rfl
  simpa [rcells, txt_data] using h
theorem recs_one (r : Rec) : recsOk [r] = recOk r := by unfold recsOk; simp
theorem recLit_c (W : World) (nm tx : ByteArray) (lv sq : Int) (h1 : nm.size ≤ 1048576) (h2 : tx.size ≤ 1048576) :
    Calls Tryz.prog 16 #[.slice (some ⟨W.heap.size, 0, none⟩) 1 1] (W.alloc (.cells #[.string nm, .int .i64 lv, .string tx, .int .i64 sq] 28)) (BoolPost (W.alloc (.cells #[.string nm, .int .i64 lv, .string tx, .int .i64 sq] 28)) (recOk ⟨nm.data.toList, lv, tx.data.toList, sq⟩)) := by
  have h9 := implValidRecords_c (.slice (some ⟨W.heap.size, 0, none⟩) 1 1) 1 (W.alloc (.cells #[.string nm, .int .i64 lv, .string tx, .int .i64 sq] 28)).heap.size [⟨nm.data.toList, lv, tx.data.toList, sq⟩] (W.alloc (.cells #[.string nm, .int .i64 lv, .string tx, .int .i64 sq] 28)) ⟨Sl.of_own (rec_lit W nm tx lv sq), fun x hx => by
    rw [List.mem_singleton] at hx; subst hx
    exact ⟨by show nm.data.toList.length ≤ _; rw [← Lib.size_eq]; exact h1, by show tx.data.toList.length ≤ _; rw [← Lib.size_eq]; exact h2⟩⟩ (Nat.le_refl _)
  rw [recs_one] at h9
  exact h9
end Go.Proofs.YtioegkcekbkblaaGreat
