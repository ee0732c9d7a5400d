/-
  WALKS: the exact laws of LevelName, ParseLevel.
-/
import Derived.Test.YthjbjafkajbdhaaDoorV1
import Derived.Test.YthjbjafkajbdhaaDoorHelps
namespace Go.Proofs.YthjbjafkajbdhaaDoor
open Go.RowKit Nm
set_option linter.unusedSimpArgs false
set_option linter.unusedVariables false
set_option maxHeartbeats 1000000 in
set_option maxRecDepth 100000 in
theorem walk_FnExactLevelName (a0 : Int) (w : World) (h : -9223372036854775808 ≤ a0 ∧ a0 ≤ 9223372036854775807) : Calls Tryd.prog 3 #[.int .i64 a0] w (BoolPost w true) := by
  have C1 := hid (fun W => specLevelName_c a0 W)
  have C2 := hid (fun W => implLevelName_c a0 W)
  unfold LvPost at C1 C2
  obtain ⟨X, hX⟩ : ∃ X : ByteArray, X = ⟨(lvL a0).toArray⟩ := ⟨_, rfl⟩
  rw [← hX] at C1 C2
  clear hX
  have e1 : (X.toList == X.toList) = true := by simp
  go_enter Tryd.func3, Tryd.ntmps3
  go_wp2_with fail
  refine (C1.out _).mono ?_
  rintro e w1 ⟨rfl, hb⟩
  have HB := hid hb
  clear hb
  go_wp2_with fail
  refine (C2.out _).mono ?_
  rintro e w2 ⟨rfl, hb⟩
  replace HB := hid (HB.out.trans (hb.mono HB.out.size))
  clear hb
  go_wp2_with fail
  go_ret
  exact ⟨rfl, HB.out⟩
set_option maxHeartbeats 1000000 in
set_option maxRecDepth 100000 in
theorem walk_FnExactParseLevel (a0 : ByteArray) (w : World) (h : a0.size ≤ maxLen) : Calls Tryd.prog 4 #[.string a0] w (BoolPost w true) := by
  unfold maxLen at h
  by_cases hb0 : (1048576 : Int) < (a0.size : Int)
  · go_enter Tryd.func4, Tryd.ntmps4
    go_wp2_with fail
    go_ret
    exact ⟨rfl, Below.refl _ _⟩
  have C1 := hid (fun W => specParseLevel_c a0 W)
  have C2 := hid (fun W => implParseLevel_c a0 W)
  unfold LfPost at C1 C2
  generalize (((lvF a0.data.toList).getD 0 : Nat) : Int) = z at C1 C2
  generalize (lvF a0.data.toList).isSome = o at C1 C2
  have e1 : (z != z) = false := by simp
  have e2 : (o != o) = false := by simp
  go_enter Tryd.func4, Tryd.ntmps4
  go_wp2_with fail
  refine (C1.out _).mono ?_
  rintro e w1 ⟨rfl, hb⟩
  have HB := hid hb
  clear hb
  go_wp2_with fail
  refine (C2.out _).mono ?_
  rintro e w2 ⟨rfl, hb⟩
  replace HB := hid (HB.out.trans (hb.mono HB.out.size))
  clear hb
  go_wp2_with fail
  go_ret
  exact ⟨rfl, HB.out⟩
end Go.Proofs.YthjbjafkajbdhaaDoor
