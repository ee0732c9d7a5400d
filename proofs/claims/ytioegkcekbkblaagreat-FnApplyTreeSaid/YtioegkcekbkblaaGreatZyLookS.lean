/-
  N12, N13, N14, N15 laid together.
-/
import Derived.Test.YtioegkcekbkblaaGreatZyLookI
import Derived.Test.YtioegkcekbkblaaGreatZyHelps
import Derived.StillTailTactics
import Derived.Deep.RegionHeld3
/-
  WALKS: the model's NearestTo, PathOf, ParentOf.
-/
namespace Go.Proofs.YtioegkcekbkblaaGreat
open Go.RowKit Nm
set_option linter.unusedSimpArgs false
set_option linter.unusedVariables false

end Go.Proofs.YtioegkcekbkblaaGreat

/-
  WALKS: the model's ParentOf, BranchOf, ChildrenOf.
-/
namespace Go.Proofs.YtioegkcekbkblaaGreat
open Go.RowKit Nm
set_option linter.unusedSimpArgs false
set_option linter.unusedVariables false

theorem near_self {ns : List Name} (h0 : ns[0]? = some []) (hn : ns.Nodup) {x : Name} (hm : x ∈ ns) : nearN ns x < ns.length ∧ ns.getD (nearN ns x) [] = x := by
  obtain ⟨j, hj, e⟩ := List.getElem_of_mem hm
  have e2 : ns[j]? = some x := by rw [List.getElem?_eq_getElem hj, e]
  rw [near_hit h0 hn _ _ e2]
  exact ⟨hj, at_getD e2⟩

end Go.Proofs.YtioegkcekbkblaaGreat

/-
  WALKS: the model's BranchOf, ChildrenOf.
-/
namespace Go.Proofs.YtioegkcekbkblaaGreat
open Go.RowKit Nm
set_option linter.unusedSimpArgs false
set_option linter.unusedVariables false

end Go.Proofs.YtioegkcekbkblaaGreat

/-
  WALKS: the model's effective, EffectiveLevel, enabled, IsEnabled.
-/
namespace Go.Proofs.YtioegkcekbkblaaGreat
open Go.RowKit Nm
set_option linter.unusedSimpArgs false
set_option linter.unusedVariables false

end Go.Proofs.YtioegkcekbkblaaGreat
