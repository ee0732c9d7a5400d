/-
  WALKS: to be below, by both; HasPrefix; LastIndexByte; above; inBranch.
-/
import Derived.Test.YtlhelhfaogcibaaW3
namespace Go.Proofs.Ytlhelhfaogcibaa
open Go.RowKit Nm
set_option linter.unusedSimpArgs false
set_option linter.unusedVariables false

theorem eq_true_of {a b : ByteArray} (h : a.data.toList = b.data.toList) : (a.toList == b.toList) = true := by rw [beq_txt]; simpa using h
theorem eq_false_of {a b : ByteArray} (h : ¬ a.data.toList = b.data.toList) : (a.toList == b.toList) = false := by rw [beq_txt]; simpa using h
theorem empty_true {a : ByteArray} (h : a.data.toList = []) : a.toList.isEmpty = true := by rw [ByteArray.toList_eq, h]; rfl
theorem empty_false {a : ByteArray} (h : ¬ a.data.toList = []) : a.toList.isEmpty = false := by
  rw [ByteArray.toList_eq]
  cases h' : a.data.toList with
  | nil => exact absurd h' h
  | cons x l => rfl

/-- the prefix of a text, as Go asks it -/
theorem hasPrefix_c (a b : ByteArray) (w : World) (ha : a.size ≤ maxLen) (hb : b.size ≤ maxLen) :
    Calls Try.prog 97 #[.string a, .string b] w fun e w' => e = .returned (.bool (decide (b.data.toList <+: a.data.toList))) ∧ w' = w := by
  unfold maxLen at ha hb
  by_cases h1 : b.size ≤ a.size
  · have h1' : ¬ ((a.size : Int) < (b.size : Int)) := by omega
    have hd : (a.extract 0 b.size).data.toList = a.data.toList.take b.size := by rw [Lib.extract_data]; simp
    by_cases h2 : (a.extract 0 b.size).data.toList = b.data.toList
    · have e2 := eq_true_of h2
      have HP := hid (show decide (b.data.toList <+: a.data.toList) = true from decide_eq_true ((pre_iff _ _).2 ⟨by rw [← Lib.size_eq, ← Lib.size_eq]; exact h1, by rw [← Lib.size_eq, ← hd]; exact h2⟩))
      clear hd h2
      go_enter Try.func97, Try.ntmps97
      go_wp2_with fail
      all_goals go_ret
      all_goals exact ⟨ret_bool (by rw [HP.out]), rfl⟩
    · have e2 := eq_false_of h2
      have HP := hid (show decide (b.data.toList <+: a.data.toList) = false from decide_eq_false (fun h => h2 (by rw [hd, Lib.size_eq]; exact ((pre_iff _ _).1 h).2)))
      clear hd h2
      go_enter Try.func97, Try.ntmps97
      go_wp2_with fail
      all_goals go_ret
      all_goals exact ⟨ret_bool (by rw [HP.out]), rfl⟩
  · have h1' : (a.size : Int) < (b.size : Int) := by omega
    have HP := hid (show decide (b.data.toList <+: a.data.toList) = false from decide_eq_false (fun h => h1 (by rw [Lib.size_eq, Lib.size_eq]; exact h.length_le)))
    go_enter Try.func97, Try.ntmps97
    go_wp2_with fail
    all_goals go_ret
    all_goals exact ⟨ret_bool (by rw [HP.out]), rfl⟩
theorem stringsHasPrefix_c (a b : ByteArray) (w : World) (ha : a.size ≤ maxLen) (hb : b.size ≤ maxLen) :
    Calls Try.prog 81 #[.string a, .string b] w fun e w' => e = .returned (.bool (decide (b.data.toList <+: a.data.toList))) ∧ w' = w := by
  have hcall := fun W => hasPrefix_c a b W ha hb
  generalize decide (b.data.toList <+: a.data.toList) = r at hcall ⊢
  go_enter Try.func81, Try.ntmps81
  go_wp2_with fail
  refine (hcall _).mono ?_
  rintro e w1 ⟨rfl, rfl⟩
  go_wp2_with fail
  go_ret
  exact ⟨rfl, rfl⟩

set_option maxHeartbeats 400000 in
set_option maxRecDepth 100000 in
theorem inBranch_c (a b : ByteArray) (w : World) (ha : a.size ≤ maxLen) (hb : b.size ≤ 1048577) :
    Calls Try.prog 56 #[.string a, .string b] w fun e w' => e = .returned (.bool (belowL a.data.toList b.data.toList)) ∧ w' = w := by
  by_cases h1 : b.data.toList = []
  · have e1 := empty_true h1
    have HP := hid (show belowL a.data.toList b.data.toList = true by simp [belowL, h1])
    clear h1
    go_enter Try.func56, Try.ntmps56
    go_wp2_with fail
    all_goals go_ret
    all_goals exact ⟨ret_bool (by rw [HP.out]), rfl⟩
  have e1 := empty_false h1
  by_cases h2 : a.data.toList = b.data.toList
  · have e2 := eq_true_of h2
    have HP := hid (show belowL a.data.toList b.data.toList = true by simp [belowL, h2])
    clear h1 h2
    go_enter Try.func56, Try.ntmps56
    go_wp2_with fail
    all_goals go_ret
    all_goals exact ⟨ret_bool (by rw [HP.out]), rfl⟩
  have e2 := eq_false_of h2
  have HP := hid (show belowL a.data.toList b.data.toList = decide ((b.data.toList ++ [46]) <+: a.data.toList) by simp [belowL, h1, h2])
  clear h1 h2
  have hcall := fun W => stringsHasPrefix_c a (b ++ ⟨#[46]⟩) W ha (by have : (⟨#[46]⟩ : ByteArray).size = 1 := rfl; unfold maxLen; rw [ByteArray.size_append]; omega)
  have hd : (b ++ ⟨#[46]⟩ : ByteArray).data.toList = b.data.toList ++ [46] := by simp
  rw [hd, ← HP.out] at hcall
  clear hd
  generalize belowL a.data.toList b.data.toList = r at hcall ⊢
  go_enter Try.func56, Try.ntmps56
  go_wp2_with fail
  refine (hcall _).mono ?_
  rintro e w1 ⟨rfl, rfl⟩
  go_wp2_with fail
  go_ret
  exact ⟨rfl, rfl⟩

theorem byteAt_dec (a : ByteArray) (n : Nat) (h : n < a.size) : ((((a[n]'h).toNat : Int) == 46) = true ↔ a.data.toList[n]? = some 46) := by
  rw [byte_at a n h, beq_iff_eq, Option.some.injEq]
  constructor
  · intro e; exact UInt8.toNat_inj.1 (by simp at e ⊢; omega)
  · rintro e; rw [e]; rfl

set_option maxHeartbeats 1000000 in
set_option maxRecDepth 100000 in
theorem specBelow_c (a b : ByteArray) (w : World) (ha : a.size ≤ maxLen) (hb : b.size ≤ maxLen) :
    Calls Try.prog 54 #[.string a, .string b] w fun e w' => e = .returned (.bool (belowL a.data.toList b.data.toList)) ∧ w' = w := by
  unfold maxLen at ha hb
  by_cases h2 : a.data.toList = b.data.toList
  · have e2 := eq_true_of h2
    have HP := hid (show belowL a.data.toList b.data.toList = true by simp [belowL, h2])
    clear h2
    go_enter Try.func54, Try.ntmps54
    go_wp2_with fail
    all_goals go_ret
    all_goals exact ⟨ret_bool (by rw [HP.out]), rfl⟩
  have e2 := eq_false_of h2
  by_cases h1 : b.data.toList = []
  · have e1 := empty_true h1
    have HP := hid (show belowL a.data.toList b.data.toList = true by simp [belowL, h1])
    clear h1 h2
    go_enter Try.func54, Try.ntmps54
    go_wp2_with fail
    all_goals go_ret
    all_goals exact ⟨ret_bool (by rw [HP.out]), rfl⟩
  have e1 := empty_false h1
  have HP := hid (show belowL a.data.toList b.data.toList = decide (b.data.toList.length < a.data.toList.length ∧ a.data.toList.take b.data.toList.length = b.data.toList ∧ a.data.toList[b.data.toList.length]? = some 46) by
    simp only [belowL, h1, h2, decide_false, Bool.false_or]; exact decide_eq_decide.2 (predot_iff _ _))
  clear h1 h2
  rw [← Lib.size_eq, ← Lib.size_eq] at HP
  by_cases h3 : b.size < a.size
  · have hd : (a.extract 0 b.size).data.toList = a.data.toList.take b.size := by rw [Lib.extract_data]; simp
    have hby : 0 ≤ ((a[b.size]'h3).toNat : Int) ∧ ((a[b.size]'h3).toNat : Int) < 256 := by have := (a[b.size]'h3).toNat_lt; omega
    by_cases h4 : (a.extract 0 b.size).data.toList = b.data.toList
    · have e4 := eq_true_of h4
      cases h5 : (((a[b.size]'h3).toNat : Int) == 46) with
      | true =>
        have HR := hid (show belowL a.data.toList b.data.toList = true by rw [HP.out]; exact decide_eq_true ⟨h3, by rw [← hd]; exact h4, (byteAt_dec a _ h3).1 h5⟩)
        clear hd h4 HP
        go_enter Try.func54, Try.ntmps54
        go_wp2_with fail
        all_goals go_ret
        all_goals exact ⟨ret_bool (by rw [HR.out]), rfl⟩
      | false =>
        have HR := hid (show belowL a.data.toList b.data.toList = false by rw [HP.out]; exact decide_eq_false (fun h => by rw [(byteAt_dec a _ h3).2 h.2.2] at h5; cases h5))
        clear hd h4 HP
        go_enter Try.func54, Try.ntmps54
        go_wp2_with fail
        all_goals go_ret
        all_goals exact ⟨ret_bool (by rw [HR.out]), rfl⟩
    · have e4 := eq_false_of h4
      have HR := hid (show belowL a.data.toList b.data.toList = false by rw [HP.out]; exact decide_eq_false (fun h => h4 (by rw [hd]; exact h.2.1)))
      clear hd h4 HP
      go_enter Try.func54, Try.ntmps54
      go_wp2_with fail
      all_goals go_ret
      all_goals exact ⟨ret_bool (by rw [HR.out]), rfl⟩
  · have h3' : (a.size : Int) ≤ (b.size : Int) := by omega
    have HR := hid (show belowL a.data.toList b.data.toList = false by rw [HP.out]; exact decide_eq_false (fun h => h3 h.1))
    clear HP
    go_enter Try.func54, Try.ntmps54
    go_wp2_with fail
    all_goals go_ret
    all_goals exact ⟨ret_bool (by rw [HR.out]), rfl⟩

/-- IsBelow of both programs -/
def isB (a b : List UInt8) : Bool := nameOk a && (nameOk b && belowL a b)

end Go.Proofs.Ytlhelhfaogcibaa
