/-
  WALKS: impl.ValidName, impl.PartsOf; the model's own words of a name (spec.validWord, splitAt, parts, validName).
-/
import Derived.Test.YtlhelhfaogcibaaW1
namespace Go.Proofs.Ytlhelhfaogcibaa
open Go.RowKit Nm
set_option linter.unusedSimpArgs false
set_option linter.unusedVariables false

def StrsPost (w : World) (ws : List (List UInt8)) (e : Ending) (w' : World) : Prop :=
  ∃ v, e = .returned v ∧ w'.ownsRow w.heap.size 9 1 v ws.length (ws.map txt) ∧ Below w.heap.size w w'
def BoolPost (w : World) (b : Bool) (e : Ending) (w' : World) : Prop := e = .returned (.bool b) ∧ Below w.heap.size w w'

set_option maxHeartbeats 400000 in
set_option maxRecDepth 100000 in
theorem implValidName_c (s : ByteArray) (w : World) (hs : s.size ≤ maxLen) :
    Calls Try.prog 55 #[.string s] w (BoolPost w (nameOk s.data.toList)) := by
  go_enter Try.func55, Try.ntmps55
  go_wp2_with fail
  refine (wordsOf_c s w hs).mono ?_
  rintro e w1 ⟨v, rfl, _, hb⟩
  go_wp2_with fail
  go_ret
  exact ⟨rfl, hb⟩

theorem inRange_c (a b c : Int) (w : World) :
    Calls Try.prog 59 #[.int .i64 a, .int .i64 b, .int .i64 c] w fun e w' => e = .returned (.bool (decide (b ≤ a) && decide (a ≤ c))) ∧ w' = w := by
  by_cases h1 : b ≤ a
  · by_cases h2 : a ≤ c
    · go_enter Try.func59, Try.ntmps59
      go_wp2
      all_goals go_ret
      all_goals exact ⟨ret_bool (by simp [h1, h2]), rfl⟩
    · have h2' : c < a := by omega
      go_enter Try.func59, Try.ntmps59
      go_wp2
      all_goals go_ret
      all_goals exact ⟨ret_bool (by simp [h1, h2]), rfl⟩
  · have h1' : a < b := by omega
    go_enter Try.func59, Try.ntmps59
    go_wp2
    all_goals go_ret
    all_goals exact ⟨ret_bool (by rw [show decide (b ≤ a) = false from decide_eq_false (by omega)]; rfl), rfl⟩

theorem byte_at (s : ByteArray) (k : Nat) (h : k < s.size) : s.data.toList[k]? = some s[k] := Lib.data_getElem? s k h
theorem vw_bad (s : ByteArray) (k : Nat) (h : k < s.size) (hb : ((s[k]'h).toNat : Int) < 97 ∨ 122 < ((s[k]'h).toNat : Int)) : wordOk s.data.toList = false := by
  cases hw : wordOk s.data.toList with
  | false => rfl
  | true =>
    simp only [wordOk, Bool.and_eq_true, List.all_eq_true] at hw
    have := (low_iff _).1 (hw.1 _ (List.mem_of_getElem? (byte_at s k h)))
    omega
theorem vw_end (s : ByteArray) (h : s.data.toList.all low = true) : wordOk s.data.toList = (decide ((1 : Int) ≤ (s.size : Int)) && decide ((s.size : Int) ≤ 4)) := by
  unfold wordOk
  rw [h, ← Lib.size_eq, Bool.true_and]
  congr 1 <;> (apply decide_eq_decide.2; omega)

set_option maxHeartbeats 1000000 in
set_option maxRecDepth 100000 in
theorem validWord_c (s : ByteArray) (w : World) (hs : s.size ≤ maxLen) :
    Calls Try.prog 68 #[.string s] w fun e w' => e = .returned (.bool (wordOk s.data.toList)) ∧ w' = w := by
  unfold maxLen at hs
  go_enter Try.func68, Try.ntmps68
  go_wp2_with fail
  go_loop [3] (fun i => ∃ k : Nat, i = .int .i64 k ∧ k ≤ s.size ∧ (s.data.toList.take k).all low = true) (fun i => s.size - (intOf i).toNat)
  case atStart => exact ⟨0, rfl, by omega, by simp⟩
  case round =>
    obtain ⟨k, rfl, hk, hl⟩ := hrel
    have HL := hid hl
    clear hl
    by_cases hlt : k < s.size
    · have hb : 0 ≤ ((s[k]'hlt).toNat : Int) ∧ ((s[k]'hlt).toNat : Int) < 256 := by have := (s[k]'hlt).toNat_lt; omega
      go_wp2_with fail
      all_goals first
        | (refine ⟨⟨k + 1, by go_num, by omega, ?_⟩, by simp [intOf]; omega⟩
           exact take_low _ k _ HL.out (byte_at s k hlt) ((low_iff _).2 (by omega)))
        | (go_ret
           exact ⟨ret_bool (by rw [vw_bad s k hlt (by omega)]), rfl⟩)
    · have e : k = s.size := by omega
      subst e
      go_wp2_with fail
      refine (inRange_c _ _ _ _).mono ?_
      rintro e w1 ⟨rfl, rfl⟩
      go_wp2_with fail
      go_ret
      refine ⟨ret_bool ?_, rfl⟩
      rw [vw_end s (by have := HL.out; rwa [List.take_of_length_le (by rw [← Lib.size_eq]; exact Nat.le_refl _)] at this)]

set_option maxHeartbeats 1000000 in
set_option maxRecDepth 100000 in
theorem splitAt_c (s : ByteArray) (c : UInt8) (w : World) (hs : s.size ≤ 1048576) :
    Calls Try.prog 87 #[.string s, .int .u8 (c.toNat : Int)] w (StrsPost w (splitB c s.data.toList)) := by
  obtain ⟨i0, hi, hz0, hz1, hz2⟩ := info_parts Try.infoStr
  go_enter Try.func87, Try.ntmps87
  go_wp2_with fail
  go_loopw [5, 6, 7] (fun v f i wr => ∃ (out : List (List UInt8)) (a b : Nat), i = .int .i64 b ∧ f = .int .i64 a ∧ SInv c s.data.toList out a b ∧
    wr.ownsRow w.heap.size 9 1 v out.length (out.map txt) ∧ Below w.heap.size w wr) (fun _ _ i _ => s.size - (intOf i).toNat)
  case atStart => exact ⟨[], 0, 0, rfl, rfl, SInv.start _ _, World.ownsRow_lit w #[] 0 (Nat.le_refl _) (by unfold maxLen; omega) rfl, (Below.refl _ _).alloc (Nat.le_refl _) _⟩
  case round =>
    obtain ⟨out, a, b, rfl, rfl, hI, hown, hb⟩ := hrel
    have hab := hI.le
    have hbl := hI.il
    rw [← Lib.size_eq] at hbl
    have hln := hI.ln
    obtain ⟨A, cp, rfl, hnc, hcm⟩ := (Sl.of_own hown).form
    by_cases hlt : b < s.size
    · have hx : txt ((s.data.toList.drop a).take (b - a)) = .string (s.extract a b) := by rw [Lib.extract_eq]; rfl
      by_cases hc : s[b]'hlt = c
      · have hI2 := hI.hit (by rw [byte_at s b hlt, hc])
        have b1 : (((s[b]'hlt).toNat : Int) == (c.toNat : Int)) = true := by rw [hc]; simp
        have HX := hid (And.intro hx hI2)
        have HC := hid hc
        clear hx hI2 hI hc
        go_wp2_with (at_builtin; refine wpList_app1 wr rfl (.tmp 20) (.tmp 25) 35 rfl w.heap.size 9 i0 (.string ByteArray.empty) 1 16 Try.underlying35 hi hz0 hz1 hz2 rfl (by decide) _ _ _ (by rfl) hown [.string (s.extract a b)] 1 9 (by rfl) rfl (one_cell rfl) (by unfold maxLen; omega) (by omega) hb.size ?_)
        intro v' w2 hown2 hb2
        have hB := hb.trans hb2
        obtain ⟨hx, hI2⟩ := HX.out
        rw [← hx] at hown2
        have R := own_txt _ _ _ _ _ _ hown2 rfl
        clear hown2 hb2 hown hx HX
        go_wp2_with fail
        go_roundw
        case rel => exact ⟨_, b + 1, b + 1, by go_num, by go_num, hI2, R, hB⟩
        case measure => simp [intOf]; omega
      · have hI2 := hI.miss (byte_at s b hlt) hc
        have b1 : (((s[b]'hlt).toNat : Int) == (c.toNat : Int)) = false := by
          rw [beq_eq_false_iff_ne]; intro e; exact hc (UInt8.toNat_inj.1 (by omega))
        have HX := hid (And.intro hI2 hown)
        clear hx hI2 hI hc hown
        go_wp2_with fail
        go_roundw
        case rel => exact ⟨out, a, b + 1, by go_num, rfl, HX.out.1, HX.out.2, hb⟩
        case measure => simp [intOf]; omega
    · have e : b = s.size := by omega
      subst e
      have fin : splitB c s.data.toList = out ++ [s.data.toList.drop a] := by
        have h2 := hI
        rw [Lib.size_eq] at h2
        exact h2.done
      have hx : txt (s.data.toList.drop a) = .string (s.extract a s.size) := by
        rw [Lib.extract_eq, Lib.size_eq, ← List.length_drop, List.take_length]; rfl
      have HX := hid (And.intro fin hx)
      clear fin hx hI
      go_wp2_with (at_builtin; refine wpList_app1 wr rfl (.tmp 29) (.tmp 33) 35 rfl w.heap.size 9 i0 (.string ByteArray.empty) 1 16 Try.underlying35 hi hz0 hz1 hz2 rfl (by decide) _ _ _ (by rfl) hown [.string (s.extract a s.size)] 1 9 (by rfl) rfl (one_cell rfl) (by unfold maxLen; omega) (by omega) hb.size ?_)
      intro v' w2 hown2 hb2
      have hB := hb.trans hb2
      obtain ⟨fin, hx⟩ := HX.out
      rw [← hx] at hown2
      have R := own_txt _ _ _ _ _ _ hown2 rfl
      rw [← fin] at R
      clear hown2 hb2 hown hx HX fin
      go_wp2_with fail
      go_ret
      exact ⟨v', rfl, R, hB⟩

set_option maxHeartbeats 400000 in
set_option maxRecDepth 100000 in
theorem parts_c (s : ByteArray) (w : World) (hs : s.size ≤ 1048576) :
    Calls Try.prog 67 #[.string s] w (StrsPost w (partsL s.data.toList)) := by
  by_cases hne : s.data.toList = []
  · have he : s.toList.isEmpty = true := by rw [ByteArray.toList_eq, hne]; rfl
    have HN := hid hne
    clear hne
    go_enter Try.func67, Try.ntmps67
    go_wp2_with fail
    go_ret
    refine ⟨_, rfl, ?_, (Below.refl _ _).alloc (Nat.le_refl _) _⟩
    rw [HN.out]
    exact World.ownsRow_lit w #[] 0 (Nat.le_refl _) (by unfold maxLen; omega) rfl
  · have he : s.toList.isEmpty = false := by
      rw [ByteArray.toList_eq]
      cases h : s.data.toList with
      | nil => exact absurd h hne
      | cons a l => rfl
    have e : partsL s.data.toList = splitB 46 s.data.toList := by unfold partsL; rw [if_neg hne, splitB_dot]
    have HE := hid e
    clear e hne
    go_enter Try.func67, Try.ntmps67
    go_wp2_with fail
    refine (splitAt_c s 46 w hs).mono ?_
    rintro e w1 ⟨v, rfl, ho, hb⟩
    have HO := hid (And.intro ho hb)
    clear ho hb
    go_wp2_with fail
    go_ret
    exact ⟨v, rfl, by rw [HE.out]; exact HO.out.1, HO.out.2⟩
end Go.Proofs.Ytlhelhfaogcibaa
