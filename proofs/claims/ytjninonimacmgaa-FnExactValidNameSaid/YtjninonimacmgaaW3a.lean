/-
  WALK: the law FnExactValidName.
-/
import Derived.Test.YtjninonimacmgaaW3
namespace Go.Proofs.Ytjninonimacmgaa
open Go.RowKit Nm
set_option linter.unusedSimpArgs false
set_option linter.unusedVariables false

set_option maxHeartbeats 400000 in
set_option maxRecDepth 100000 in
theorem walk_FnExactValidName (s : ByteArray) (w : World) (hs : s.size ≤ maxLen) :
    Calls Try.prog 7 #[.string s] w (BoolPost w true) := by
  have hs' := hs
  unfold maxLen at hs'
  by_cases hbig : (1048576 : Int) < (s.size : Int)
  · go_enter Try.func7, Try.ntmps7
    go_wp2_with fail
    go_ret
    exact ⟨rfl, Below.refl _ _⟩
  · have hcall := fun W => specValidName_c s W (by omega)
    have hcall2 := fun W => implValidName_c s W hs
    generalize nameOk s.data.toList = b at hcall hcall2
    go_enter Try.func7, Try.ntmps7
    go_wp2_with fail
    refine (hcall _).mono ?_
    rintro e w1 ⟨rfl, hb⟩
    go_wp2_with fail
    refine (hcall2 _).mono ?_
    rintro e w2 ⟨rfl, hb2⟩
    go_wp2_with fail
    go_ret
    exact ⟨rfl, hb.trans (hb2.mono hb.size)⟩
end Go.Proofs.Ytjninonimacmgaa
