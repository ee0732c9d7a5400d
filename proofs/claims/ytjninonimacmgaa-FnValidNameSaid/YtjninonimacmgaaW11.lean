/-
  WALKS: the laws FnIsBelow and FnCommonName.
-/
import Derived.Test.YtjninonimacmgaaW10
namespace Go.Proofs.Ytjninonimacmgaa
open Go.RowKit Nm
set_option linter.unusedSimpArgs false
set_option linter.unusedVariables false

theorem IsRow.bound {k : IntKind} {w : World} {a : Option Addr} {len cap : Nat} {z : List Int} (h : IsRow k w a len cap z) : len ≤ 9223372036854775807 := by
  rcases h with ⟨_, h, _, _⟩ | ⟨x, _, h1, h2, _⟩
  · omega
  · unfold maxLen at h2; omega
theorem nameOk_nil : nameOk [] = true := rfl
theorem isB_self (a : List UInt8) (h : nameOk a = true) : isB a a = true := by simp [isB, h, belowL]
theorem isB_root (a : List UInt8) (h : nameOk a = true) : isB a [] = true := by simp [isB, h, belowL, nameOk_nil]
theorem isB_iff (a b : List UInt8) (ha : nameOk a = true) (hb : nameOk b = true) : isB a b = true ↔ partsL b <+: partsL a := by
  simp only [isB, ha, hb, Bool.true_and]; exact belowL_iff a b
theorem isB_both (a b : List UInt8) (ha : nameOk a = true) (hb : nameOk b = true) : (isB a b && isB b a) = decide (a = b) := by
  rw [Bool.eq_iff_iff, Bool.and_eq_true, isB_iff a b ha hb, isB_iff b a hb ha, decide_eq_true_eq]
  constructor
  · rintro ⟨h1, h2⟩
    exact partsL_inj (h2.eq_of_length_le h1.length_le)
  · rintro rfl; exact ⟨List.prefix_refl _, List.prefix_refl _⟩
theorem isB_len (a b : List UInt8) (ha : nameOk a = true) (hb : nameOk b = true) (h : isB a b = true) : (pw b).length ≤ (pw a).length := by
  unfold pw; rw [ha, hb]; exact ((isB_iff a b ha hb).1 h).length_le

set_option maxHeartbeats 4000000 in
set_option maxRecDepth 100000 in
theorem walk_FnIsBelow (a0 : Option Addr) (len0 cap0 : Nat) (z0 : List Int) (w : World) (w0 : IsRow .u8 w a0 len0 cap0 z0) :
    Calls Try.prog 5 #[.slice a0 len0 cap0] w (BoolPost w true) := by
  have hb0 := w0.bound
  by_cases h1 : (1048576 : Int) < (len0 : Int)
  · go_enter Try.func5, Try.ntmps5
    go_wp2_with fail
    go_ret
    exact ⟨rfl, Below.refl _ _⟩
  have D := hid (drawIsBelow_c a0 len0 cap0 z0 w w0)
  clear w0
  go_enter Try.func5, Try.ntmps5
  go_wp2_with fail
  refine D.out.mono ?_
  rintro e w1 ⟨a, b, ha, hb, rfl, hB⟩
  have HB := hid hB
  clear hB D
  have I := hid (fun W => implIsBelow_c a b W (by omega) (by omega))
  have S := hid (fun W => specIsBelow_c a b W (by omega) (by omega))
  have J := hid (fun W => implIsBelow_c b a W (by omega) (by omega))
  have A := hid (fun W => implIsBelow_c a a W (by omega) (by omega))
  have R := hid (fun W => implIsBelow_c a ⟨#[]⟩ W (by omega) (by show 0 ≤ 1048576; omega))
  have V := hid (fun W => implValidName_c a W (by unfold maxLen; omega))
  have U := hid (fun W => implValidName_c b W (by unfold maxLen; omega))
  have P := hid (fun W => implPartsOf_c a W (by unfold maxLen; omega))
  have Q := hid (fun W => implPartsOf_c b W (by unfold maxLen; omega))
  have fLen := hid (isB_len a.data.toList b.data.toList)
  have fBoth := hid (isB_both a.data.toList b.data.toList)
  have fSelf := hid (isB_self a.data.toList)
  have fRoot := hid (isB_root a.data.toList)
  have fEq := hid (beq_txt a b)
  generalize hr : isB a.data.toList b.data.toList = r at I S fLen fBoth
  clear hr
  generalize hx : nameOk a.data.toList = x at V fLen fBoth fSelf fRoot
  clear hx
  generalize hy : nameOk b.data.toList = y at U fLen fBoth
  clear hy
  go_wp2_with fail
  refine (I.out _).mono ?_
  rintro e w2 ⟨rfl, hB⟩
  have HB2 := hid (HB.out.trans (hB.mono HB.out.size))
  clear hB HB
  go_wp2_with fail
  refine (S.out _).mono ?_
  rintro e w3 ⟨rfl, hB⟩
  have HB3 := hid (HB2.out.trans (hB.mono HB2.out.size))
  clear hB HB2
  have b0 : (r != r) = false := by simp
  have b1 : (r == r) = true := by simp
  go_wp2_with fail
  refine (V.out _).mono ?_
  rintro e w4 ⟨rfl, hB⟩
  have HB4 := hid (HB3.out.trans (hB.mono HB3.out.size))
  clear hB HB3
  cases x with
  | false =>
    go_wp2_with fail
    refine (S.out _).mono ?_
    rintro e w5 ⟨rfl, hB⟩
    have HB5 := hid (HB4.out.trans (hB.mono HB4.out.size))
    clear hB HB4
    go_wp2_with fail
    go_ret
    exact ⟨ret_bool (by simp), HB5.out⟩
  | true =>
    go_wp2_with fail
    refine (U.out _).mono ?_
    rintro e w5 ⟨rfl, hB⟩
    have HB5 := hid (HB4.out.trans (hB.mono HB4.out.size))
    clear hB HB4
    cases y with
    | false =>
      go_wp2_with fail
      refine (S.out _).mono ?_
      rintro e w6 ⟨rfl, hB⟩
      have HB6 := hid (HB5.out.trans (hB.mono HB5.out.size))
      clear hB HB5
      go_wp2_with fail
      go_ret
      exact ⟨ret_bool (by simp), HB6.out⟩
    | true =>
      have f1 := fSelf.out (by trivial)
      have f2 := fRoot.out (by trivial)
      have f3 := fBoth.out (by trivial) (by trivial)
      rw [← fEq.out] at f3
      go_wp2_with fail
      have A' := A.out
      rw [f1] at A'
      refine (A' _).mono ?_
      rintro e w6 ⟨rfl, hB⟩
      have HB6 := hid (HB5.out.trans (hB.mono HB5.out.size))
      clear hB HB5 A' A
      have R' := R.out
      rw [show isB a.data.toList (⟨#[]⟩ : ByteArray).data.toList = true from f2] at R'
      clear f1 f2
      have F3 := hid f3
      have R'' := hid R'
      clear f3 R'
      go_wp2_with fail
      refine (R''.out _).mono ?_
      rintro e w7 ⟨rfl, hB⟩
      have HB7 := hid (HB6.out.trans (hB.mono HB6.out.size))
      clear hB HB6 R'' R
      cases r with
      | false =>
        have e1 : (a.toList == b.toList) = false := by have := F3.out; simpa using this.symm
        go_wp2_with fail
        go_ret
        exact ⟨rfl, HB7.out⟩
      | true =>
        go_wp2_with fail
        refine (J.out _).mono ?_
        rintro e w8 ⟨rfl, hB⟩
        have HB8 := hid (HB7.out.trans (hB.mono HB7.out.size))
        clear hB HB7
        have e1 := F3.out
        rw [Bool.true_and] at e1
        generalize isB b.data.toList a.data.toList = q at e1 ⊢
        have hl := fLen.out (by trivial) (by trivial) (by trivial)
        cases q with
        | false =>
          have e1' : (a.toList == b.toList) = false := e1.symm
          clear e1
          have HL := hid hl
          clear hl
          go_wp2_with fail
          refine (P.out _).mono ?_
          rintro e w9 ⟨v1, rfl, ho1, hB⟩
          have HB9 := hid (HB8.out.trans (hB.mono HB8.out.size))
          obtain ⟨A1, c1, rfl, _, _⟩ := (Sl.of_own ho1).form
          clear hB HB8 ho1
          go_wp2_with fail
          refine (Q.out _).mono ?_
          rintro e w10 ⟨v2, rfl, ho2, hB⟩
          have HB10 := hid (HB9.out.trans (hB.mono HB9.out.size))
          obtain ⟨A2, c2, rfl, _, _⟩ := (Sl.of_own ho2).form
          clear hB HB9 ho2
          have hl := HL.out
          have hd : ¬ (((pw a.data.toList).length : Int) < ((pw b.data.toList).length : Int)) := by omega
          go_wp2_with fail
          all_goals go_ret
          all_goals exact ⟨ret_bool (by first | (simp; done) | (simp; omega)), HB10.out⟩
        | true =>
          have e1' : (a.toList == b.toList) = true := e1.symm
          clear e1
          have HL := hid hl
          clear hl
          go_wp2_with fail
          refine (P.out _).mono ?_
          rintro e w9 ⟨v1, rfl, ho1, hB⟩
          have HB9 := hid (HB8.out.trans (hB.mono HB8.out.size))
          obtain ⟨A1, c1, rfl, _, _⟩ := (Sl.of_own ho1).form
          clear hB HB8 ho1
          go_wp2_with fail
          refine (Q.out _).mono ?_
          rintro e w10 ⟨v2, rfl, ho2, hB⟩
          have HB10 := hid (HB9.out.trans (hB.mono HB9.out.size))
          obtain ⟨A2, c2, rfl, _, _⟩ := (Sl.of_own ho2).form
          clear hB HB9 ho2
          have hl := HL.out
          have hd : ¬ (((pw a.data.toList).length : Int) < ((pw b.data.toList).length : Int)) := by omega
          go_wp2_with fail
          all_goals go_ret
          all_goals exact ⟨ret_bool (by first | (simp; done) | (simp; omega)), HB10.out⟩

theorem common_facts (a b : List UInt8) (ha : nameOk a = true) (hb : nameOk b = true) :
    isB a (commonOf a b) = true ∧ isB b (commonOf a b) = true ∧ commonOf b a = commonOf a b ∧ decide (commonOf a b = b) = isB a b := by
  have e : commonOf a b = commonL a b := by simp [commonOf, ha, hb]
  have e2 : commonOf b a = commonL b a := by simp [commonOf, ha, hb]
  obtain ⟨h1, h2⟩ := common_ok a b ha
  rw [e2, e]
  refine ⟨?_, ?_, ?_, ?_⟩
  · rw [isB_iff a _ ha h1, h2]; exact cpre_left _ _
  · rw [isB_iff b _ hb h1, h2]; exact cpre_right _ _
  · unfold commonL; rw [cpre_comm]
  · rw [Bool.eq_iff_iff, decide_eq_true_eq, isB_iff a b ha hb, ← cpre_eq_right]
    constructor
    · intro h; rw [← h2, h]
    · intro h; rw [← h2] at h; exact partsL_inj h
theorem common_size (a b : List UInt8) : (commonOf a b).length ≤ 20 := by
  unfold commonOf
  split
  · rename_i h
    simp only [Bool.and_eq_true] at h
    exact name_size _ (common_ok a b h.1).1
  · simp

set_option maxHeartbeats 4000000 in
set_option maxRecDepth 100000 in
theorem walk_FnCommonName (a0 : Option Addr) (len0 cap0 : Nat) (z0 : List Int) (w : World) (w0 : IsRow .u8 w a0 len0 cap0 z0) :
    Calls Try.prog 6 #[.slice a0 len0 cap0] w (BoolPost w true) := by
  have hb0 := w0.bound
  by_cases h1 : (1048576 : Int) < (len0 : Int)
  · go_enter Try.func6, Try.ntmps6
    go_wp2_with fail
    go_ret
    exact ⟨rfl, Below.refl _ _⟩
  have D := hid (drawCommonName_c a0 len0 cap0 z0 w w0)
  clear w0
  go_enter Try.func6, Try.ntmps6
  go_wp2_with fail
  refine D.out.mono ?_
  rintro e w1 ⟨a, b, ha, hb, rfl, hB⟩
  have HB := hid hB
  clear hB D
  obtain ⟨x, hx1, hx2⟩ := txt_mk (commonOf a.data.toList b.data.toList)
  have hxs : x.size ≤ 20 := by rw [Lib.size_eq, hx2]; exact common_size _ _
  have I := hid (fun W => implCommon_c a b W (by omega) (by omega))
  have S := hid (fun W => specCommon_c a b W (by omega) (by omega))
  have J := hid (fun W => implCommon_c b a W (by omega) (by omega))
  have A := hid (fun W => implIsBelow_c a x W (by omega) (by omega))
  have B := hid (fun W => implIsBelow_c b x W (by omega) (by omega))
  have L := hid (fun W => implIsBelow_c a b W (by omega) (by omega))
  have V := hid (fun W => implValidName_c a W (by unfold maxLen; omega))
  have U := hid (fun W => implValidName_c b W (by unfold maxLen; omega))
  have F := hid (common_facts a.data.toList b.data.toList)
  rw [← hx2] at F
  rw [hx1] at I S
  have X2 := hid (And.intro hx1 hx2)
  clear hx1 hx2
  have fEq := hid (beq_txt x b)
  have b0 : (x.toList != x.toList) = false := by rw [bne, eq_true_of rfl]; rfl
  have b1 : (x.toList == x.toList) = true := eq_true_of rfl
  generalize hx : nameOk a.data.toList = p at V F
  clear hx
  generalize hy : nameOk b.data.toList = q at U F
  clear hy
  go_wp2_with fail
  refine (I.out _).mono ?_
  rintro e w2 ⟨rfl, hB⟩
  have HB2 := hid (HB.out.trans (hB.mono HB.out.size))
  clear hB HB
  go_wp2_with fail
  refine (S.out _).mono ?_
  rintro e w3 ⟨rfl, hB⟩
  have HB3 := hid (HB2.out.trans (hB.mono HB2.out.size))
  clear hB HB2
  go_wp2_with fail
  refine (V.out _).mono ?_
  rintro e w4 ⟨rfl, hB⟩
  have HB4 := hid (HB3.out.trans (hB.mono HB3.out.size))
  clear hB HB3
  cases p with
  | false =>
    go_wp2_with fail
    refine (S.out _).mono ?_
    rintro e w5 ⟨rfl, hB⟩
    have HB5 := hid (HB4.out.trans (hB.mono HB4.out.size))
    clear hB HB4
    go_wp2_with fail
    go_ret
    exact ⟨ret_bool (by first | rfl | (simp; done)), HB5.out⟩
  | true =>
    go_wp2_with fail
    refine (U.out _).mono ?_
    rintro e w5 ⟨rfl, hB⟩
    have HB5 := hid (HB4.out.trans (hB.mono HB4.out.size))
    clear hB HB4
    cases q with
    | false =>
      go_wp2_with fail
      refine (S.out _).mono ?_
      rintro e w6 ⟨rfl, hB⟩
      have HB6 := hid (HB5.out.trans (hB.mono HB5.out.size))
      clear hB HB5
      go_wp2_with fail
      go_ret
      exact ⟨ret_bool (by first | rfl | (simp; done)), HB6.out⟩
    | true =>
      obtain ⟨f1, f2, f3, f4⟩ := F.out (by trivial) (by trivial)
      rw [← fEq.out] at f4
      have A' := A.out
      rw [f1] at A'
      have B' := B.out
      rw [f2] at B'
      have J' := J.out
      rw [f3, txt_data] at J'
      have L' := L.out
      rw [← f4] at L'
      have A := hid A'
      have B := hid B'
      have J := hid J'
      have L := hid L'
      clear f1 f2 f3 f4 A' B' J' L' F fEq
      generalize hr : (x.toList == b.toList) = r at L
      go_wp2_with fail
      refine (A.out _).mono ?_
      rintro e w6 ⟨rfl, hB⟩
      have HB6 := hid (HB5.out.trans (hB.mono HB5.out.size))
      clear hB HB5
      go_wp2_with fail
      refine (B.out _).mono ?_
      rintro e w7 ⟨rfl, hB⟩
      have HB7 := hid (HB6.out.trans (hB.mono HB6.out.size))
      clear hB HB6
      go_wp2_with fail
      refine (J.out _).mono ?_
      rintro e w8 ⟨rfl, hB⟩
      have HB8 := hid (HB7.out.trans (hB.mono HB7.out.size))
      clear hB HB7
      go_wp2_with fail
      refine (L.out _).mono ?_
      rintro e w9 ⟨rfl, hB⟩
      have HB9 := hid (HB8.out.trans (hB.mono HB8.out.size))
      clear hB HB8
      go_wp2_with fail
      go_ret
      exact ⟨ret_bool (by first | rfl | (simp; done) | (simp [hr]; done)), HB9.out⟩
end Go.Proofs.Ytjninonimacmgaa
