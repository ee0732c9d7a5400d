/-
  THE RULE OF A WARNING: RuleOf of the model.
-/
import Derived.Test.YtochbjockoenpaaDoorRU0
namespace Go.Proofs.YtochbjockoenpaaDoor
open Go.RowKit Go.Proofs.YtochbjockoenpaaDoor.Nm
set_option linter.unusedSimpArgs false
set_option linter.unusedVariables false

theorem wrn_lit (W : World) (tx md : ByteArray) (ln : Int) : (W.alloc (.cells #[.string tx, .string md, .int .i64 ln] 29)).ownsRow W.heap.size 29 3 (.slice (some ⟨W.heap.size, 0, none⟩) 1 1) 1 (([⟨tx.data.toList, md.data.toList, ln⟩] : List Wrn).flatMap wncells) := by
  have h := World.ownsRow_lit (e := 29) (size := 3) (base := W.heap.size) W #[.string tx, .string md, .int .i64 ln] 1 (Nat.le_refl _) (by unfold maxLen; omega) rfl
  simpa [wncells, txt_data] using h
theorem wrns_one (r : Wrn) : wrnsOk [r] = wrnOk r := by unfold wrnsOk; simp
end Go.Proofs.YtochbjockoenpaaDoor
