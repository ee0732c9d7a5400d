/-
  WALKS: LastIndexByte, above, the common name by both; joinWith.
-/
import Derived.Test.YtjninonimacmgaaW4
import Derived.Deep.QuietTactic
import Derived.BigQuiet
namespace Go.Proofs.Ytjninonimacmgaa
open Go.RowKit Nm
set_option linter.unusedSimpArgs false
set_option linter.unusedVariables false

theorem below_dr {B : Nat} {a w : World} (h : Below B a w) (n : Nat) : Below B a (w.drewN n) := ⟨h.os, h.tape, h.output, h.size, h.block⟩

def LastPost (l : List UInt8) (c : UInt8) (w : World) (e : Ending) (w' : World) : Prop :=
  ∃ r : Int, e = .returned (.int .i64 r) ∧ w' = w ∧ ((∃ i : Nat, r = i ∧ l[i]? = some c ∧ ∀ x ∈ l.drop (i + 1), x ≠ c) ∨ (r = -1 ∧ ∀ x ∈ l, x ≠ c))

set_option maxHeartbeats 1000000 in
set_option maxRecDepth 100000 in
theorem lastIndex_c (s : ByteArray) (c : UInt8) (w : World) (hs : s.size ≤ maxLen) :
    Calls Try.prog 60 #[.string s, .int .u8 (c.toNat : Int)] w (LastPost s.data.toList c w) := by
  unfold maxLen at hs
  go_enter Try.func60, Try.ntmps60
  go_wp2_with fail
  go_loopg [5] s.size (fun g i wr => i = .int .i64 ((g : Int) - 1) ∧ g ≤ s.size ∧ wr = w ∧ Hid (∀ x ∈ s.data.toList.drop g, x ≠ c))
  case atStart => exact ⟨rfl, Nat.le_refl _, rfl, by rw [Lib.size_eq, List.drop_length]; intro x hx; cases hx⟩
  case round =>
    obtain ⟨rfl, hg, rfl, HD⟩ := hrel
    cases gk with
    | zero =>
      go_wp2_with fail
      go_ret
      exact ⟨-1, rfl, rfl, .inr ⟨rfl, by simpa using HD.out⟩⟩
    | succ g =>
      have hlt : g < s.size := by omega
      have hby : 0 ≤ ((s[g]'hlt).toNat : Int) ∧ ((s[g]'hlt).toNat : Int) < 256 := by have := (s[g]'hlt).toNat_lt; omega
      have e1 : ((g + 1 : Nat) : Int) - 1 = (g : Int) := by omega
      rw [e1]
      clear e1
      by_cases hc : s[g]'hlt = c
      · have b1 : (((s[g]'hlt).toNat : Int) == (c.toNat : Int)) = true := by rw [hc]; simp
        have HC := hid hc
        clear hc
        go_wp2_with fail
        go_ret
        exact ⟨g, rfl, rfl, .inl ⟨g, rfl, by rw [byte_at s g hlt, HC.out], HD.out⟩⟩
      · have b1 : (((s[g]'hlt).toNat : Int) == (c.toNat : Int)) = false := by
          rw [beq_eq_false_iff_ne]; intro e; exact hc (UInt8.toNat_inj.1 (by omega))
        have HC := hid hc
        clear hc
        go_wp2_with fail
        go_roundg g
        case measure => omega
        case rel =>
          refine ⟨rfl, by omega, rfl, ?_⟩
          show ∀ x ∈ s.data.toList.drop g, x ≠ c
          rw [drop_cons _ g _ (byte_at s g hlt)]
          intro x hx
          rcases List.mem_cons.1 hx with rfl | hx
          · exact HC.out
          · exact HD.out x hx
theorem stringsLast_c (s : ByteArray) (c : UInt8) (w : World) (hs : s.size ≤ maxLen) :
    Calls Try.prog 56 #[.string s, .int .u8 (c.toNat : Int)] w (LastPost s.data.toList c w) := by
  have hcall := hid (fun W => lastIndex_c s c W hs)
  go_enter Try.func56, Try.ntmps56
  go_wp2_with fail
  refine (hcall.out _).mono ?_
  rintro e w1 ⟨r, rfl, rfl, hr⟩
  have HR := hid hr
  clear hr
  go_wp2_with fail
  go_ret
  exact ⟨r, rfl, rfl, HR.out⟩

set_option maxHeartbeats 1000000 in
set_option maxRecDepth 100000 in
theorem implAbove_c (s : ByteArray) (w : World) (hs : s.size ≤ maxLen) :
    Calls Try.prog 42 #[.string s] w fun e w' => e = .returned (txt (aboveL s.data.toList)) ∧ w' = w := by
  have hcall := hid (fun W => stringsLast_c s 46 W hs)
  unfold maxLen at hs
  go_enter Try.func42, Try.ntmps42
  go_wp2_with fail
  refine (hcall.out _).mono ?_
  rintro e w1 ⟨r, rfl, rfl, ⟨i, rfl, hi, hn⟩ | ⟨rfl, hn⟩⟩
  · have hil : i < s.size := by rw [Lib.size_eq]; exact (List.getElem?_eq_some_iff.1 hi).1
    have HE := hid (show txt (aboveL s.data.toList) = .string (s.extract 0 i) by rw [← above_at _ i hi hn, Lib.extract_eq]; simp [txt])
    have H0 := hid (show ¬ 0 < i → txt (aboveL s.data.toList) = .string ByteArray.empty by
      intro h0
      obtain rfl : i = 0 := by omega
      rw [← above_at _ 0 hi hn]; simp [txt]; rfl)
    clear hi hn
    go_wp2_with fail
    all_goals go_ret
    · exact ⟨by rw [HE.out]; rfl, rfl⟩
    · exact ⟨by rw [H0.out (by assumption)]; rfl, rfl⟩
  · have HE := hid (show txt (aboveL s.data.toList) = .string ByteArray.empty by rw [above_none _ hn]; simp [txt]; rfl)
    clear hn
    go_wp2_with fail
    go_ret
    exact ⟨by rw [HE.out]; rfl, rfl⟩

theorem total_words (ws : List (List UInt8)) (h : ∀ w ∈ ws, wordOk w = true) : total ws ≤ 4 * ws.length := by
  induction ws with
  | nil => simp [total]
  | cons a r ih =>
    have h1 := ih (fun w hw => h w (by simp [hw]))
    have h2 := h a (by simp)
    simp only [wordOk, Bool.and_eq_true, decide_eq_true_eq] at h2
    simp only [total, List.map_cons, List.sum_cons, List.length_cons] at h1 ⊢
    omega
theorem name_size (l : List UInt8) (h : nameOk l = true) : l.length ≤ 20 := by
  obtain ⟨h1, h2⟩ := (nameOk_iff l).1 h
  have h3 := joinS_len [46] (partsL l)
  rw [joinS_dot, join_parts] at h3
  have h4 := total_words _ h1
  simp only [List.length_singleton, Nat.one_mul] at h3
  omega
theorem txt_mk (l : List UInt8) : ∃ x : ByteArray, txt l = .string x ∧ x.data.toList = l := ⟨⟨l.toArray⟩, rfl, by simp⟩
theorem join_small (l : List UInt8) (k : Nat) : (joinL ((partsL l).take k)).length ≤ 2 * l.length + 2 := by
  have h1 := joinS_len [46] ((partsL l).take k)
  rw [joinS_dot] at h1
  have h2 := total_take (partsL l) k
  have h3 := total_parts l
  simp only [List.length_singleton, Nat.one_mul, List.length_take] at h1
  omega
def commonOf (a b : List UInt8) : List UInt8 := if nameOk a && nameOk b then commonL a b else []

set_option maxHeartbeats 2000000 in
set_option maxRecDepth 100000 in
theorem implCommon_c (a b : ByteArray) (w : World) (ha : a.size ≤ 1048576) (hb : b.size ≤ 1048576) :
    Calls Try.prog 23 #[.string a, .string b] w fun e w' => e = .returned (txt (commonOf a.data.toList b.data.toList)) ∧ Below w.heap.size w w' := by
  have c1 := fun W => implValidName_c a W (by unfold maxLen; omega)
  have c2 := fun W => implValidName_c b W (by unfold maxLen; omega)
  cases hx : nameOk a.data.toList with
  | false =>
    rw [hx] at c1
    have H := hid (show commonOf a.data.toList b.data.toList = [] by simp [commonOf, hx])
    have C1 := hid c1
    clear hx c1 c2
    go_enter Try.func23, Try.ntmps23
    go_wp2_with fail
    refine (C1.out _).mono ?_
    rintro e w1 ⟨rfl, hb1⟩
    go_wp2_with fail
    go_ret
    exact ⟨by rw [H.out]; rfl, hb1⟩
  | true =>
    cases hy : nameOk b.data.toList with
    | false =>
      rw [hx] at c1
      rw [hy] at c2
      have H := hid (show commonOf a.data.toList b.data.toList = [] by simp [commonOf, hy])
      have C1 := hid c1
      have C2 := hid c2
      clear hx hy c1 c2
      go_enter Try.func23, Try.ntmps23
      go_wp2_with fail
      refine (C1.out _).mono ?_
      rintro e w1 ⟨rfl, hb1⟩
      go_wp2_with fail
      refine (C2.out _).mono ?_
      rintro e w2 ⟨rfl, hb2⟩
      go_wp2_with fail
      go_ret
      exact ⟨by rw [H.out]; rfl, hb1.trans (hb2.mono hb1.size)⟩
    | true =>
      rw [hx] at c1
      rw [hy] at c2
      have H := hid (show commonOf a.data.toList b.data.toList = commonL a.data.toList b.data.toList by simp [commonOf, hx, hy])
      have HX := hid hx
      have HY := hid hy
      have hb20 : b.size ≤ 20 := by rw [Lib.size_eq]; exact name_size _ hy
      have C1 := hid c1
      have C2 := hid c2
      clear hx hy c1 c2
      go_enter Try.func23, Try.ntmps23
      go_wp2_with fail
      refine (C1.out _).mono ?_
      rintro e w1 ⟨rfl, hb1⟩
      go_wp2_with fail
      refine (C2.out _).mono ?_
      rintro e w2 ⟨rfl, hb2⟩
      have HB := hid (hb1.trans (hb2.mono hb1.size))
      clear hb1 hb2
      go_wp2_with fail
      go_loopg [5] (partsL b.data.toList).length (fun g v wr => ∃ x : ByteArray, v = .string x ∧ Hid (x.data.toList = joinL ((partsL b.data.toList).take g)) ∧ g ≤ (partsL b.data.toList).length ∧ (cpre (partsL a.data.toList) (partsL b.data.toList)).length ≤ g ∧ wr = w2)
      case atStart => exact ⟨b, rfl, by show _ = _; rw [List.take_length, join_parts], Nat.le_refl _, (cpre_right _ _).length_le, rfl⟩
      case round =>
        obtain ⟨x, rfl, HJ, hg, hc, rfl⟩ := hrel
        have hxs : x.size ≤ 2 * b.size + 2 := by rw [Lib.size_eq, Lib.size_eq, HJ.out]; exact join_small _ _
        cases hbl : belowL a.data.toList x.data.toList with
        | true =>
          have C3 := inBranch_c a x wr (by unfold maxLen; omega) (by omega)
          rw [hbl] at C3
          have HE := hid (show txt (commonL a.data.toList b.data.toList) = .string x by
            have h2 := hbl
            rw [HJ.out] at h2
            rw [← common_stop _ _ _ HY.out hg hc h2, ← HJ.out, txt_data])
          clear hbl
          go_wp2_with fail
          refine C3.mono ?_
          rintro e w3 ⟨rfl, rfl⟩
          go_wp2_with fail
          go_ret
          exact ⟨by rw [H.out, HE.out]; rfl, HB.out⟩
        | false =>
          have C3 := inBranch_c a x wr (by unfold maxLen; omega) (by omega)
          rw [hbl] at C3
          have hgo : (cpre (partsL a.data.toList) (partsL b.data.toList)).length + 1 ≤ gk := by
            have h2 := hbl
            rw [HJ.out] at h2
            exact common_go _ _ _ HY.out hc h2
          obtain ⟨g, rfl⟩ : ∃ g, gk = g + 1 := ⟨gk - 1, by omega⟩
          obtain ⟨y, hy1, hy2⟩ := txt_mk (aboveL x.data.toList)
          have C4 := implAbove_c x wr (by unfold maxLen; omega)
          rw [hy1] at C4
          have HE := hid (show y.data.toList = joinL ((partsL b.data.toList).take g) by rw [hy2, HJ.out]; exact above_take _ _ HY.out hg)
          clear hbl hy1 hy2
          go_wp2_with fail
          refine C3.mono ?_
          rintro e w3 ⟨rfl, rfl⟩
          go_wp2_with fail
          refine C4.mono ?_
          rintro e w4 ⟨rfl, rfl⟩
          go_wp2_with fail
          go_roundg g
          case measure => omega
          case rel => exact ⟨y, rfl, HE.out, by omega, by omega, rfl⟩
end Go.Proofs.Ytjninonimacmgaa
