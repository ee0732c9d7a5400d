/-
  WALKS: LastIndexByte, above, the common name by both; joinWith.
-/
import Derived.Test.YtlhelhfaogcibaaW4
import Derived.Deep.QuietTactic
import Derived.BigQuiet
namespace Go.Proofs.Ytlhelhfaogcibaa
open Go.RowKit Nm
set_option linter.unusedSimpArgs false
set_option linter.unusedVariables false


def LastPost (l : List UInt8) (c : UInt8) (w : World) (e : Ending) (w' : World) : Prop :=
  ∃ r : Int, e = .returned (.int .i64 r) ∧ w' = w ∧ ((∃ i : Nat, r = i ∧ l[i]? = some c ∧ ∀ x ∈ l.drop (i + 1), x ≠ c) ∨ (r = -1 ∧ ∀ x ∈ l, x ≠ c))

set_option maxHeartbeats 1000000 in
set_option maxRecDepth 100000 in
theorem lastIndex_c (s : ByteArray) (c : UInt8) (w : World) (hs : s.size ≤ maxLen) :
    Calls Try.prog 102 #[.string s, .int .u8 (c.toNat : Int)] w (LastPost s.data.toList c w) := by
  unfold maxLen at hs
  go_enter Try.func102, Try.ntmps102
  go_wp2_with fail
  go_loopg [5] s.size (fun g i wr => i = .int .i64 ((g : Int) - 1) ∧ g ≤ s.size ∧ wr = w ∧ Hid (∀ x ∈ s.data.toList.drop g, x ≠ c))
  case atStart => exact ⟨rfl, Nat.le_refl _, rfl, by rw [Lib.size_eq, List.drop_length]; intro x hx; cases hx⟩
  case round =>
    obtain ⟨rfl, hg, rfl, HD⟩ := hrel
    cases gk with
    | zero =>
      go_wp2_with fail
      go_ret
      exact ⟨-1, rfl, rfl, .inr ⟨rfl, by simpa using HD.out⟩⟩
    | succ g =>
      have hlt : g < s.size := by omega
      have hby : 0 ≤ ((s[g]'hlt).toNat : Int) ∧ ((s[g]'hlt).toNat : Int) < 256 := by have := (s[g]'hlt).toNat_lt; omega
      have e1 : ((g + 1 : Nat) : Int) - 1 = (g : Int) := by omega
      rw [e1]
      clear e1
      by_cases hc : s[g]'hlt = c
      · have b1 : (((s[g]'hlt).toNat : Int) == (c.toNat : Int)) = true := by rw [hc]; simp
        have HC := hid hc
        clear hc
        go_wp2_with fail
        go_ret
        exact ⟨g, rfl, rfl, .inl ⟨g, rfl, by rw [byte_at s g hlt, HC.out], HD.out⟩⟩
      · have b1 : (((s[g]'hlt).toNat : Int) == (c.toNat : Int)) = false := by
          rw [beq_eq_false_iff_ne]; intro e; exact hc (UInt8.toNat_inj.1 (by omega))
        have HC := hid hc
        clear hc
        go_wp2_with fail
        go_roundg g
        case measure => omega
        case rel =>
          refine ⟨rfl, by omega, rfl, ?_⟩
          show ∀ x ∈ s.data.toList.drop g, x ≠ c
          rw [drop_cons _ g _ (byte_at s g hlt)]
          intro x hx
          rcases List.mem_cons.1 hx with rfl | hx
          · exact HC.out
          · exact HD.out x hx
theorem stringsLast_c (s : ByteArray) (c : UInt8) (w : World) (hs : s.size ≤ maxLen) :
    Calls Try.prog 95 #[.string s, .int .u8 (c.toNat : Int)] w (LastPost s.data.toList c w) := by
  have hcall := hid (fun W => lastIndex_c s c W hs)
  go_enter Try.func95, Try.ntmps95
  go_wp2_with fail
  refine (hcall.out _).mono ?_
  rintro e w1 ⟨r, rfl, rfl, hr⟩
  have HR := hid hr
  clear hr
  go_wp2_with fail
  go_ret
  exact ⟨r, rfl, rfl, HR.out⟩

set_option maxHeartbeats 1000000 in
set_option maxRecDepth 100000 in
theorem implAbove_c (s : ByteArray) (w : World) (hs : s.size ≤ maxLen) :
    Calls Try.prog 79 #[.string s] w fun e w' => e = .returned (txt (aboveL s.data.toList)) ∧ w' = w := by
  have hcall := hid (fun W => stringsLast_c s 46 W hs)
  unfold maxLen at hs
  go_enter Try.func79, Try.ntmps79
  go_wp2_with fail
  refine (hcall.out _).mono ?_
  rintro e w1 ⟨r, rfl, rfl, ⟨i, rfl, hi, hn⟩ | ⟨rfl, hn⟩⟩
  · have hil : i < s.size := by rw [Lib.size_eq]; exact (List.getElem?_eq_some_iff.1 hi).1
    have HE := hid (show txt (aboveL s.data.toList) = .string (s.extract 0 i) by rw [← above_at _ i hi hn, Lib.extract_eq]; simp [txt])
    have H0 := hid (show ¬ 0 < i → txt (aboveL s.data.toList) = .string ByteArray.empty by
      intro h0
      obtain rfl : i = 0 := by omega
      rw [← above_at _ 0 hi hn]; simp [txt]; rfl)
    clear hi hn
    go_wp2_with fail
    all_goals go_ret
    · exact ⟨by rw [HE.out]; rfl, rfl⟩
    · exact ⟨by rw [H0.out (by assumption)]; rfl, rfl⟩
  · have HE := hid (show txt (aboveL s.data.toList) = .string ByteArray.empty by rw [above_none _ hn]; simp [txt]; rfl)
    clear hn
    go_wp2_with fail
    go_ret
    exact ⟨by rw [HE.out]; rfl, rfl⟩

theorem total_words (ws : List (List UInt8)) (h : ∀ w ∈ ws, wordOk w = true) : total ws ≤ 4 * ws.length := by
  induction ws with
  | nil => simp [total]
  | cons a r ih =>
    have h1 := ih (fun w hw => h w (by simp [hw]))
    have h2 := h a (by simp)
    simp only [wordOk, Bool.and_eq_true, decide_eq_true_eq] at h2
    simp only [total, List.map_cons, List.sum_cons, List.length_cons] at h1 ⊢
    omega
theorem name_size (l : List UInt8) (h : nameOk l = true) : l.length ≤ 20 := by
  obtain ⟨h1, h2⟩ := (nameOk_iff l).1 h
  have h3 := joinS_len [46] (partsL l)
  rw [joinS_dot, join_parts] at h3
  have h4 := total_words _ h1
  simp only [List.length_singleton, Nat.one_mul] at h3
  omega
theorem txt_mk (l : List UInt8) : ∃ x : ByteArray, txt l = .string x ∧ x.data.toList = l := ⟨⟨l.toArray⟩, rfl, by simp⟩
theorem join_small (l : List UInt8) (k : Nat) : (joinL ((partsL l).take k)).length ≤ 2 * l.length + 2 := by
  have h1 := joinS_len [46] ((partsL l).take k)
  rw [joinS_dot] at h1
  have h2 := total_take (partsL l) k
  have h3 := total_parts l
  simp only [List.length_singleton, Nat.one_mul, List.length_take] at h1
  omega
def commonOf (a b : List UInt8) : List UInt8 := if nameOk a && nameOk b then commonL a b else []

end Go.Proofs.Ytlhelhfaogcibaa
