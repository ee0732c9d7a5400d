/-
  WALKS: the drawn laws of LevelName, ParseLevel.
-/
import Derived.Test.YthjbjafkajbdhaaDoorV1
import Derived.Test.YthjbjafkajbdhaaDoorD0
namespace Go.Proofs.YthjbjafkajbdhaaDoor
open Go.RowKit Nm
set_option linter.unusedSimpArgs false
set_option linter.unusedVariables false
theorem IsRow.leV {k : IntKind} {w : World} {a : Option Addr} {len cap : Nat} {z : List Int} (h : IsRow k w a len cap z) : len ≤ 9223372036854775807 := by
  rcases h with ⟨_, h, _, _⟩ | ⟨x, _, h1, h2, _⟩
  · omega
  · unfold maxLen at h2; omega
set_option maxHeartbeats 1000000 in
set_option maxRecDepth 100000 in
theorem drawLevelName_c (a : Option Addr) (len cap : Nat) (z : List Int) (w : World) (h : IsRow .u8 w a len cap z) :
    Calls Tryd.prog 12 #[.slice a len cap] w fun e w' => ∃ x : Int, e = .returned (.int .i64 x) ∧ Below w.heap.size w w' := by
  have C := hid (newReader_c a len cap z w h)
  clear h
  go_enter Tryd.func12, Tryd.ntmps12
  go_wp2_with fail
  refine C.out.mono ?_
  rintro e w1 ⟨rfl, hr1, hb1⟩
  have HB1 := hid hb1
  have C1 := hid (one_lit w.heap.size 0 12 [10, 20, 30, 40, 50, 60, 0, 15, 7, 61, -1, 31] w1 hr1 (by omega) rfl (by omega) (by omega) (-1) 61 (by decide))
  clear hr1 hb1 C
  go_wp2_with fail
  refine C1.out.mono ?_
  rintro e w2 ⟨x, _, rfl, hr2, hg2⟩
  have HB2 := hid (HB1.out.trans (below_own hg2 HB1.out.size (Nat.le_refl _)))
  clear hr2 hg2
  go_wp2_with fail
  go_ret
  exact ⟨x, rfl, HB2.out⟩
def parseTexts : List (List UInt8) := [[100, 101, 98, 117, 103], [105, 110, 102, 111], [119, 97, 114, 110], [101, 114, 114, 111, 114], [102, 97, 116, 97, 108], [54, 48], [48], [49, 53], [49, 48], [48, 53], [], [68, 101, 98, 117, 103], [54, 49], [45, 49], [120]]
set_option maxHeartbeats 1000000 in
set_option maxRecDepth 100000 in
theorem drawParseLevel_c (a : Option Addr) (len cap : Nat) (z : List Int) (w : World) (h : IsRow .u8 w a len cap z) :
    Calls Tryd.prog 13 #[.slice a len cap] w fun e w' => ∃ x : ByteArray, e = .returned (.string x) ∧ Below w.heap.size w w' := by
  have C := hid (newReader_c a len cap z w h)
  clear h
  go_enter Tryd.func13, Tryd.ntmps13
  go_wp2_with fail
  refine C.out.mono ?_
  rintro e w1 ⟨rfl, hr1, hb1⟩
  have HB1 := hid hb1
  have C1 := hid (of_lit w.heap.size 0 15 20 parseTexts w1 hr1 (by omega) rfl (by omega) (by omega) (by decide))
  clear hr1 hb1 C
  go_wp2_with fail
  refine C1.out.mono ?_
  rintro e w2 ⟨x, p1, h1, rfl, h2, h3, hg2⟩
  have HB2 := hid (HB1.out.trans (below_own hg2 HB1.out.size (Nat.le_refl _)))
  clear h1 h2 h3 hg2
  go_wp2_with fail
  go_ret
  exact ⟨x, rfl, HB2.out⟩
set_option maxHeartbeats 1000000 in
set_option maxRecDepth 100000 in
theorem walk_FnLevelName (a0 : Option Addr) (len0 cap0 : Nat) (z0 : List Int) (w : World) (w0 : IsRow .u8 w a0 len0 cap0 z0) :
    Calls Tryd.prog 5 #[.slice a0 len0 cap0] w (BoolPost w true) := by
  have hb0 := w0.leV
  by_cases h1 : (1048576 : Int) < (len0 : Int)
  · go_enter Tryd.func5, Tryd.ntmps5
    go_wp2_with fail
    go_ret
    exact ⟨rfl, Below.refl _ _⟩
  have DR := hid (drawLevelName_c a0 len0 cap0 z0 w w0)
  clear w0
  go_enter Tryd.func5, Tryd.ntmps5
  go_wp2_with fail
  refine DR.out.mono ?_
  rintro e w1 ⟨x, rfl, hb⟩
  have HB := hid hb
  clear hb DR
  have C1 := hid (fun W => implLevelName_c x W)
  have C2 := hid (fun W => specLevelName_c x W)
  unfold LvPost at C1 C2
  obtain ⟨X, hX⟩ : ∃ X : ByteArray, X = ⟨(lvL x).toArray⟩ := ⟨_, rfl⟩
  rw [← hX] at C1 C2
  have hXl := hid (show X.data.toList = lvL x by rw [hX])
  clear hX
  have e1 : (X.toList == X.toList) = true := by simp
  go_wp2_with fail
  refine (C1.out _).mono ?_
  rintro e w2 ⟨rfl, hb⟩
  replace HB := hid (HB.out.trans (hb.mono HB.out.size))
  clear hb
  go_wp2_with fail
  refine (C2.out _).mono ?_
  rintro e w3 ⟨rfl, hb⟩
  replace HB := hid (HB.out.trans (hb.mono HB.out.size))
  clear hb
  by_cases hx : 0 ≤ x ∧ x ≤ 60
  · obtain ⟨n, rfl⟩ : ∃ n : Nat, x = n := ⟨x.toNat, by omega⟩
    have C3 := hid (fun W => implParseLevel_c X W)
    rw [hXl.out, lvL_nat (by omega), lvF_name (by omega)] at C3
    have e2 : X.toList.isEmpty = false := empty_false (by rw [hXl.out, lvL_nat (by omega)]; exact lvN_ne (by omega))
    have e3 : ((n : Int) == (n : Int)) = true := by simp
    clear hx
    go_wp2_with fail
    refine (C3.out _).mono ?_
    rintro e w4 ⟨rfl, hb⟩
    replace HB := hid (HB.out.trans (hb.mono HB.out.size))
    clear hb
    go_wp2_with fail
    go_ret
    exact ⟨rfl, HB.out⟩
  · have e2 : X.toList.isEmpty = true := empty_true (by rw [hXl.out]; unfold lvL; rw [if_neg hx])
    clear hx
    go_wp2_with fail
    refine (C2.out _).mono ?_
    rintro e w4 ⟨rfl, hb⟩
    replace HB := hid (HB.out.trans (hb.mono HB.out.size))
    clear hb
    go_wp2_with fail
    go_ret
    exact ⟨rfl, HB.out⟩
set_option maxHeartbeats 1000000 in
set_option maxRecDepth 100000 in
theorem walk_FnParseLevel (a0 : Option Addr) (len0 cap0 : Nat) (z0 : List Int) (w : World) (w0 : IsRow .u8 w a0 len0 cap0 z0) :
    Calls Tryd.prog 6 #[.slice a0 len0 cap0] w (BoolPost w true) := by
  have hb0 := w0.leV
  by_cases h1 : (1048576 : Int) < (len0 : Int)
  · go_enter Tryd.func6, Tryd.ntmps6
    go_wp2_with fail
    go_ret
    exact ⟨rfl, Below.refl _ _⟩
  have DR := hid (drawParseLevel_c a0 len0 cap0 z0 w w0)
  clear w0
  go_enter Tryd.func6, Tryd.ntmps6
  go_wp2_with fail
  refine DR.out.mono ?_
  rintro e w1 ⟨x, rfl, hb⟩
  have HB := hid hb
  clear hb DR
  have C1 := hid (fun W => implParseLevel_c x W)
  have C2 := hid (fun W => specParseLevel_c x W)
  unfold LfPost at C1 C2
  cases ho : lvF x.data.toList with
  | none =>
    rw [ho] at C1 C2
    clear ho
    go_wp2_with fail
    refine (C1.out _).mono ?_
    rintro e w2 ⟨rfl, hb⟩
    replace HB := hid (HB.out.trans (hb.mono HB.out.size))
    clear hb
    go_wp2_with fail
    refine (C2.out _).mono ?_
    rintro e w3 ⟨rfl, hb⟩
    replace HB := hid (HB.out.trans (hb.mono HB.out.size))
    clear hb
    go_wp2_with fail
    go_ret
    exact ⟨rfl, HB.out⟩
  | some k =>
    rw [ho] at C1 C2
    obtain ⟨hk1, hk2⟩ := lvF_some ho
    have C3 := hid (fun W => implLevelName_c k W)
    rw [lvL_nat hk2, hk1] at C3
    unfold LvPost at C3
    have hxe : (⟨x.data.toList.toArray⟩ : ByteArray) = x := by simp
    rw [hxe] at C3
    have e3 : ((k : Int) != (k : Int)) = false := by simp
    have e4 : ((k : Int) == (k : Int)) = true := by simp
    have e5 : (x.toList == x.toList) = true := by simp
    have e6 : (0 : Int) ≤ (k : Int) := by omega
    have e7 : (k : Int) ≤ 60 := by omega
    clear ho hk1 hxe
    go_wp2_with fail
    refine (C1.out _).mono ?_
    rintro e w2 ⟨rfl, hb⟩
    replace HB := hid (HB.out.trans (hb.mono HB.out.size))
    clear hb
    go_wp2_with fail
    refine (C2.out _).mono ?_
    rintro e w3 ⟨rfl, hb⟩
    replace HB := hid (HB.out.trans (hb.mono HB.out.size))
    clear hb
    go_wp2_with fail
    refine (C3.out _).mono ?_
    rintro e w4 ⟨rfl, hb⟩
    replace HB := hid (HB.out.trans (hb.mono HB.out.size))
    clear hb
    go_wp2_with fail
    go_ret
    exact ⟨rfl, HB.out⟩
end Go.Proofs.YthjbjafkajbdhaaDoor
