/-
  WALKS: the law FnPartsOf.
-/
import Derived.Test.YtjninonimacmgaaW11
namespace Go.Proofs.Ytjninonimacmgaa
open Go.RowKit Nm
set_option linter.unusedSimpArgs false
set_option linter.unusedVariables false

theorem pw_word (x : List UInt8) (h : wordOk x = true) : pw x = [x] := by
  obtain ⟨h1, h2⟩ := nameOk_join [x] (by simpa using h) (by simp)
  simp only [joinL] at h1 h2
  unfold pw; rw [h1, h2]; rfl
/-- one element of a slice, as a slice -/
theorem Sl.one {w : World} {B n c b o : Nat} {ws : List (List UInt8)} (h : Sl w B 1 n (.slice (some ⟨b, o, none⟩) n c) (ws.map txt)) {k : Nat} (hk : k < n) {x : List UInt8} (hx : ws[k]? = some x) :
    Sl w B 1 1 (.slice (some ⟨b, o + k, none⟩) 1 (c - k)) ([x].map txt) := by
  obtain ⟨A', c', he, h2, h3, hl, h4⟩ := h.parts_
  obtain ⟨rfl, rfl⟩ : A' = some ⟨b, o, none⟩ ∧ c = c' := by simpa [eq_comm] using he
  obtain ⟨b', o', e, hb, hc⟩ := h4 (by omega)
  obtain ⟨rfl, rfl⟩ : b = b' ∧ o = o' := by simpa using e
  refine ⟨by simp, _, _, rfl, by omega, by omega, fun _ => ⟨b, o + k, rfl, hb, fun j u hu => ?_⟩⟩
  have hj : j = 0 := by
    have := (List.getElem?_eq_some_iff.1 hu).1
    simp at this; omega
  subst hj
  refine hc k u ?_
  rw [List.getElem?_map, hx]
  simpa using hu

set_option maxHeartbeats 4000000 in
set_option maxRecDepth 100000 in
theorem walk_FnPartsOf (a0 : Option Addr) (len0 cap0 : Nat) (z0 : List Int) (w : World) (w0 : IsRow .u8 w a0 len0 cap0 z0) :
    Calls Try.prog 4 #[.slice a0 len0 cap0] w (BoolPost w true) := by
  have hb0 := w0.bound
  by_cases h1 : (1048576 : Int) < (len0 : Int)
  · go_enter Try.func4, Try.ntmps4
    go_wp2_with fail
    go_ret
    exact ⟨rfl, Below.refl _ _⟩
  have D := hid (drawPartsOf_c a0 len0 cap0 z0 w w0)
  clear w0
  go_enter Try.func4, Try.ntmps4
  go_wp2_with fail
  refine D.out.mono ?_
  rintro e w1 ⟨a, ha, rfl, hB⟩
  have HB := hid hB
  clear hB D
  have I := hid (fun W => implPartsOf_c a W (by unfold maxLen; omega))
  have S := hid (fun W => specPartsOf_c a W (by omega))
  have V := hid (fun W => implValidName_c a W (by unfold maxLen; omega))
  have F := hid (show nameOk a.data.toList = true → (∀ x ∈ pw a.data.toList, wordOk x = true) ∧ (pw a.data.toList).length ≤ 4 ∧ joinS [46] (pw a.data.toList) = a.data.toList from fun h => by
    obtain ⟨h2, h3⟩ := (nameOk_iff _).1 h
    have e : pw a.data.toList = partsL a.data.toList := by unfold pw; rw [h]; rfl
    rw [e]
    exact ⟨h2, h3, by rw [joinS_dot, join_parts]⟩)
  generalize pw a.data.toList = ws at I S F
  generalize hx : nameOk a.data.toList = p at V F
  clear hx
  go_wp2_with fail
  refine (I.out _).mono ?_
  rintro e w2 ⟨v, rfl, ho, hB⟩
  obtain ⟨A, c, rfl, hnc, _⟩ := (Sl.of_own ho).form
  have HB2 := hid (HB.out.trans (hB.mono HB.out.size))
  have SO := hid (Sl.of_own ho)
  clear hB HB ho
  go_wp2_with fail
  refine (S.out _).mono ?_
  rintro e w3 ⟨v3, rfl, ho3, hB⟩
  obtain ⟨A3, c3, rfl, _, _⟩ := (Sl.of_own ho3).form
  have HB3 := hid (HB2.out.trans (hB.mono HB2.out.size))
  have SO3 := (SO.out.below hB (Nat.le_refl _))
  have hs3 := hB.size
  have E := hid (equalTexts_c _ _ _ _ _ _ _ w3 (SO3.more hB.size) (Sl.of_own ho3) (Nat.le_refl _))
  rw [decide_eq_true (rfl : ws = ws)] at E
  have SW := hid (And.intro SO3 hs3)
  clear hB HB2 ho3 SO3 hs3 SO
  go_wp2_with fail
  refine E.out.mono ?_
  rintro e w4 ⟨rfl, hB⟩
  have HB4 := hid (HB3.out.trans (hB.mono HB3.out.size))
  have SO4 := hid (And.intro (SW.out.1.below hB SW.out.2) (Nat.le_trans SW.out.2 hB.size))
  clear hB HB3 SW E
  go_wp2_with fail
  refine (V.out _).mono ?_
  rintro e w5 ⟨rfl, hB⟩
  have HB5 := hid (HB4.out.trans (hB.mono HB4.out.size))
  have SO5 := hid (And.intro (SO4.out.1.below hB SO4.out.2) (Nat.le_trans SO4.out.2 hB.size))
  clear hB HB4 SO4
  cases p with
  | false =>
    go_wp2_with fail
    refine (S.out _).mono ?_
    rintro e w6 ⟨v6, rfl, ho6, hB⟩
    obtain ⟨A6, c6, rfl, _, _⟩ := (Sl.of_own ho6).form
    have HB6 := hid (HB5.out.trans (hB.mono HB5.out.size))
    have E := hid (equalTexts_c _ _ _ _ _ _ _ w6 ((SO5.out.1.below hB SO5.out.2).more (Nat.le_trans SO5.out.2 hB.size)) (Sl.of_own ho6) (Nat.le_refl _))
    rw [decide_eq_true (rfl : ws = ws)] at E
    clear hB HB5 SO5 ho6
    go_wp2_with fail
    refine E.out.mono ?_
    rintro e w7 ⟨rfl, hB⟩
    have HB7 := hid (HB6.out.trans (hB.mono HB6.out.size))
    clear hB HB6
    go_wp2_with fail
    go_ret
    exact ⟨rfl, HB7.out⟩
  | true =>
    obtain ⟨hok, hl4, hj⟩ := F.out (by trivial)
    have K := hid (And.intro hok hj)
    clear hok hj F V I S
    go_wp2_with fail
    go_loopw [5, 6] (fun av kv wr => ∃ (k : Nat) (x : ByteArray), kv = .int .i64 k ∧ av = .string x ∧ k ≤ ws.length ∧ x.size ≤ 100 * k ∧ Hid (x.data.toList = joinS [46] (ws.take k)) ∧ Hid (Below w5.heap.size w5 wr)) (fun _ kv _ => ws.length - (intOf kv).toNat)
    case atStart => exact ⟨0, ByteArray.empty, rfl, rfl, by omega, Nat.le_refl _, by show _ = _; simp [joinS], Below.refl _ _⟩
    case round =>
      obtain ⟨k, x, rfl, rfl, hk, hxs, HX, HW⟩ := hrel
      by_cases hlt : k < ws.length
      · have SR := SO5.out.1.below HW.out SO5.out.2
        obtain ⟨b, o, q, rfl, hbB, hq1, hcq⟩ := SR.text hlt
        have hw := K.out.1 _ (List.mem_of_getElem? hq1)
        have hq4 : q.size ≤ 4 := by
          rw [Lib.size_eq]
          simp only [wordOk, Bool.and_eq_true, decide_eq_true_eq] at hw
          exact hw.2.2
        have P := hid (fun W => implPartsOf_c q W (by unfold maxLen; omega))
        rw [pw_word _ hw] at P
        have hone := SR.one hlt hq1
        have hsz : w2.heap.size ≤ wr.heap.size := Nat.le_trans SO5.out.2 HW.out.size
        have EQ := hid (fun (W' : World) (A' : Option Addr) (c' : Nat) (h1 : Sl W' W'.heap.size 1 1 (.slice A' 1 c') ([q.data.toList].map txt)) (h2 : Below wr.heap.size wr W') =>
          equalTexts_c (.slice A' 1 c') (.slice (some ⟨b, o + k, none⟩) 1 (c - k)) 1 1 W'.heap.size [q.data.toList] [q.data.toList] W' h1 ((hone.below h2 hsz).more (by have := h2.size; omega)) (Nat.le_refl _))
        rw [decide_eq_true (rfl : [q.data.toList] = [q.data.toList])] at EQ
        have hj := joinS_take [46] ws k _ hq1
        have HJ := hid hj
        have hck : ¬ c = k := by omega
        have q1 : IntKind.i64.wrap ((k : Int) + 1) = (k : Int) + 1 := by rw [IntKind.wrap_i64]; omega
        have q2 : (0 : Int) ≤ (k : Int) + 1 := by omega
        have q3 : ((k : Int) + 1).toNat = k + 1 := rfl
        have q4 : (k : Int) + 1 ≤ (c : Int) := by omega
        have q5 : (k : Int) ≤ (k : Int) + 1 := by omega
        have q6 : k + 1 - k = 1 := by omega
        clear hw hone hq1 SR hj hbB
        go_wp2_with fail
        go_region_with (first
          | (go_at_call 15; refine (P.out _).mono ?_; rintro e w6 ⟨v6, rfl, ho6, hb6⟩; have h6 : Below wr.heap.size wr w6 := (by first | exact hb6 | exact (Below.refl _ wr).drew.trans hb6 | exact (Below.refl _ wr).drew.drew.trans hb6); have s6 := Sl.of_own ho6; obtain ⟨A6, c6, rfl, _, _⟩ := s6.form; have H6 := hid (And.intro s6 h6); clear ho6 hb6 h6 s6)
          | (go_at_call 18; refine (EQ.out _ _ _ (by exact H6.out.1) (by first | exact H6.out.2 | exact H6.out.2.drew | exact H6.out.2.drew.drew)).mono ?_; rintro e w7 ⟨rfl, hb7⟩))
        have h7 : Below wr.heap.size wr w7 := by
          first
            | exact H6.out.2.trans (hb7.mono H6.out.2.size)
            | exact H6.out.2.drew.trans (hb7.mono H6.out.2.size)
            | exact H6.out.2.drew.drew.trans (hb7.mono H6.out.2.size)
        have hbw : b < wr.heap.size := World.block_lt_of_cell? wr ⟨b, o + k, none⟩ hcq
        have hcq7 : w7.cell? ⟨b, o + k, none⟩ = some (.string q) := (h7.cell (p := ⟨b, o + k, none⟩) hbw).trans hcq
        have HW7 := hid (HW.out.trans (h7.mono HW.out.size))
        clear h7 hb7 q1 q2 q3 q4 q5 q6 hcq hck H6 EQ P
        by_cases h0 : 0 < k
        · go_wp2_with fail
          go_roundw
          case rel =>
            refine ⟨k + 1, _, by go_num, rfl, by omega, ?_, ?_, HW7.out⟩
            · have : (⟨#[46]⟩ : ByteArray).size = 1 := rfl
              simp only [ByteArray.size_append]; omega
            · show _ = _
              rw [HJ.out, if_neg (by omega)]
              simp only [ByteArray.data_append, Array.toList_append, HX.out, List.append_assoc]
          case measure => simp [intOf]; omega
        · obtain rfl : k = 0 := by omega
          have hx0 : x = ByteArray.empty := (bytes_eq_iff _ _).1 (by rw [HX.out]; simp [joinS])
          subst hx0
          simp only [Nat.add_zero] at hcq7
          go_wp2_with fail
          go_roundw
          case rel =>
            refine ⟨1, _, by go_num, rfl, by omega, ?_, ?_, HW7.out⟩
            · omega
            · show _ = _
              rw [HJ.out, if_pos rfl]
          case measure => simp [intOf]; omega
      · have hkl : k = ws.length := by omega
        have e1 : (x.toList == a.toList) = true := eq_true_of (by rw [HX.out, List.take_of_length_le (by omega), K.out.2])
        go_wp2_with fail
        go_ret
        exact ⟨ret_bool (by first | rfl | (simp; done) | (simp; omega)), HB5.out.trans (HW.out.mono HB5.out.size)⟩
end Go.Proofs.Ytjninonimacmgaa
