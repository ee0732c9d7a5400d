/-
  WALKS: joinWith; the common name by the model; the law FnExactCommonName.
-/
import Derived.Test.YtjninonimacmgaaW5
namespace Go.Proofs.Ytjninonimacmgaa
open Go.RowKit Nm
set_option linter.unusedSimpArgs false
set_option linter.unusedVariables false

theorem joinS_take (s : List UInt8) (ws : List (List UInt8)) (k : Nat) (x : List UInt8) (hx : ws[k]? = some x) :
    joinS s (ws.take (k + 1)) = if k = 0 then x else joinS s (ws.take k) ++ (s ++ x) := by
  have hk : k < ws.length := (List.getElem?_eq_some_iff.1 hx).1
  rw [List.take_add_one, hx]
  show joinS s (ws.take k ++ [x]) = _
  rw [joinS_snoc]
  by_cases h : k = 0
  · subst h; simp
  · rw [if_neg h, if_neg]
    intro e
    have := congrArg List.length e
    simp at this
    rcases this with h1 | h1
    · exact h h1
    · rw [h1] at hk; simp at hk
theorem joinS_bound (s : List UInt8) (ws : List (List UInt8)) (k : Nat) : (joinS s (ws.take k)).length ≤ total ws + s.length * ws.length := by
  have h1 := joinS_len s (ws.take k)
  have h2 := total_take ws k
  have h3 : s.length * (ws.take k).length ≤ s.length * ws.length := Nat.mul_le_mul (Nat.le_refl _) (by rw [List.length_take]; omega)
  omega
theorem elem_total (ws : List (List UInt8)) (k : Nat) (x : List UInt8) (hx : ws[k]? = some x) : x.length ≤ total ws := len_le_total _ _ (List.mem_of_getElem? hx)

set_option maxHeartbeats 2000000 in
set_option maxRecDepth 100000 in
theorem joinWith_c (v : Value) (n B : Nat) (ws : List (List UInt8)) (sep : ByteArray) (w : World) (hv : Sl w B 1 n v (ws.map txt)) (hn : n ≤ 4194304) (ht : total ws + sep.data.toList.length * ws.length ≤ 8388608) (hsp : sep.size ≤ 8388608) :
    Calls Try.prog 43 #[v, .string sep] w fun e w' => e = .returned (txt (joinS sep.data.toList ws)) ∧ w' = w := by
  obtain ⟨hl, A, c, rfl, hnc, hcm, hA⟩ := hv
  have hln : ws.length = n := by simpa using hl
  have HA := hid (And.intro hA (And.intro hln ht))
  clear hl hA hln ht
  go_enter Try.func43, Try.ntmps43
  go_wp2_with fail
  go_loop [5, 6] (fun out i => ∃ (x : ByteArray) (k : Nat), i = .int .i64 k ∧ k ≤ n ∧ out = .string x ∧ Hid (x.data.toList = joinS sep.data.toList (ws.take k))) (fun _ i => n - (intOf i).toNat)
  case atStart => exact ⟨ByteArray.empty, 0, rfl, by omega, rfl, by show _ = _; simp [joinS]⟩
  case round =>
    obtain ⟨x, k, rfl, hk, rfl, HX⟩ := hrel
    obtain ⟨hA, hln, ht⟩ := HA.out
    by_cases hlt : k < n
    · obtain ⟨b, o, rfl, hbB, hcell⟩ := hA (by omega)
      obtain ⟨y, hy1, hy2⟩ := txt_at ws k (by omega)
      have hcy := hcell k _ hy2
      have hy3 := elem_total _ _ _ hy1
      rw [← Lib.size_eq] at hy3
      have hx3 : x.size ≤ total ws + sep.data.toList.length * ws.length := by rw [Lib.size_eq, HX.out]; exact joinS_bound _ _ _
      have hj := joinS_take sep.data.toList ws k _ hy1
      have hxb : x.size ≤ 8388608 := by omega
      have hyb : y.size ≤ 8388608 := by omega
      have HJ := hid hj
      clear hj hcell hy1 hy2 hA ht hln hx3 hy3
      by_cases h0 : 0 < k
      · go_wp2_with fail
        refine ⟨⟨_, k + 1, by go_num, by omega, rfl, ?_⟩, by simp [intOf]; omega⟩
        show _ = _
        rw [HJ.out, if_neg (by omega)]
        simp only [ByteArray.data_append, Array.toList_append, HX.out, List.append_assoc]
      · obtain rfl : k = 0 := by omega
        have hx0 : x = ByteArray.empty := (bytes_eq_iff _ _).1 (by rw [HX.out]; simp [joinS])
        subst hx0
        simp only [Nat.add_zero] at hcy
        go_wp2_with fail
        refine ⟨⟨_, 1, by go_num, by omega, rfl, ?_⟩, by simp [intOf]; omega⟩
        show _ = _
        rw [HJ.out, if_pos rfl]
    · have hk2 : k = n := by omega
      have HE := hid (show txt (joinS sep.data.toList ws) = .string x by
        rw [← txt_data, HX.out, List.take_of_length_le (by omega)])
      clear hA ht hln
      go_wp2_with fail
      go_ret
      exact ⟨by rw [HE.out]; rfl, rfl⟩

theorem Sl.parts_ {w : World} {B sz n : Nat} {v : Value} {xs : List Value} (h : Sl w B sz n v xs) : ∃ A c, v = .slice A n c ∧ n ≤ c ∧ c ≤ maxLen ∧ xs.length = n * sz ∧
    (0 < n → ∃ b o, A = some ⟨b, o, none⟩ ∧ b < B ∧ ∀ j u, xs[j]? = some u → w.cell? ⟨b, o + j, none⟩ = some u) := by
  obtain ⟨hl, A, c, h1, h2, h3, h4⟩ := h
  exact ⟨A, c, h1, h2, h3, hl, h4⟩
/-- a slice's first k elements -/
theorem Sl.cut {w : World} {B n c : Nat} {A : Option Addr} {xs : List Value} (h : Sl w B 1 n (.slice A n c) xs) {k : Nat} (hk : k ≤ n) : Sl w B 1 k (.slice A k c) (xs.take k) := by
  obtain ⟨A', c', he, h2, h3, hl, h4⟩ := h.parts_
  obtain ⟨rfl, -, rfl⟩ : A = A' ∧ n = n ∧ c = c' := by simpa using he
  refine ⟨by simp; omega, A, c, rfl, by omega, h3, fun hk0 => ?_⟩
  obtain ⟨b, o, e, hb, hc⟩ := h4 (by omega)
  refine ⟨b, o, e, hb, fun j u hu => hc j u ?_⟩
  rw [List.getElem?_take] at hu
  split at hu
  · exact hu
  · cases hu
theorem Sl.text {w : World} {B n c : Nat} {A : Option Addr} {ws : List (List UInt8)} (h : Sl w B 1 n (.slice A n c) (ws.map txt)) {k : Nat} (hk : k < n) :
    ∃ b o p, A = some ⟨b, o, none⟩ ∧ b < B ∧ ws[k]? = some p.data.toList ∧ w.cell? ⟨b, o + k, none⟩ = some (.string p) := by
  obtain ⟨A', c', he, h2, h3, hl, h4⟩ := h.parts_
  obtain ⟨rfl, rfl⟩ : A = A' ∧ c = c' := by simpa using he
  obtain ⟨b, o, e, hb, hc⟩ := h4 (by omega)
  obtain ⟨p, hp1, hp2⟩ := txt_at ws k (by simp at hl; omega)
  exact ⟨b, o, p, e, hb, hp1, hc k _ hp2⟩
theorem map_take (ws : List (List UInt8)) (k : Nat) : (ws.map txt).take k = (ws.take k).map txt := by rw [List.map_take]

set_option maxHeartbeats 4000000 in
set_option maxRecDepth 100000 in
theorem specCommon_c (a b : ByteArray) (w : World) (ha : a.size ≤ 1048576) (hb : b.size ≤ 1048576) :
    Calls Try.prog 24 #[.string a, .string b] w fun e w' => e = .returned (txt (commonOf a.data.toList b.data.toList)) ∧ Below w.heap.size w w' := by
  have c1 := fun W => validName_c a W ha
  have c2 := fun W => validName_c b W hb
  cases hx : nameOk a.data.toList with
  | false =>
    rw [hx] at c1
    have H := hid (show commonOf a.data.toList b.data.toList = [] by simp [commonOf, hx])
    have C1 := hid c1
    clear hx c1 c2
    go_enter Try.func24, Try.ntmps24
    go_wp2_with fail
    refine (C1.out _).mono ?_
    rintro e w1 ⟨rfl, hb1⟩
    go_wp2_with fail
    go_ret
    exact ⟨by rw [H.out]; rfl, hb1⟩
  | true =>
    cases hy : nameOk b.data.toList with
    | false =>
      rw [hx] at c1
      rw [hy] at c2
      have H := hid (show commonOf a.data.toList b.data.toList = [] by simp [commonOf, hy])
      have C1 := hid c1
      have C2 := hid c2
      clear hx hy c1 c2
      go_enter Try.func24, Try.ntmps24
      go_wp2_with fail
      refine (C1.out _).mono ?_
      rintro e w1 ⟨rfl, hb1⟩
      go_wp2_with fail
      refine (C2.out _).mono ?_
      rintro e w2 ⟨rfl, hb2⟩
      go_wp2_with fail
      go_ret
      exact ⟨by rw [H.out]; rfl, hb1.trans (hb2.mono hb1.size)⟩
    | true =>
      rw [hx] at c1
      rw [hy] at c2
      have H := hid (show commonOf a.data.toList b.data.toList = joinL (cpre (partsL a.data.toList) (partsL b.data.toList)) by simp [commonOf, commonL, hx, hy])
      obtain ⟨hwa, hla⟩ := (nameOk_iff _).1 hx
      obtain ⟨hwb, hlb⟩ := (nameOk_iff _).1 hy
      have hta := total_words _ hwa
      have C1 := hid c1
      have C2 := hid c2
      clear hx hy c1 c2 hwa hwb
      have P1 := hid (fun W => parts_c a W ha)
      have P2 := hid (fun W => parts_c b W hb)
      generalize partsL a.data.toList = x at *
      generalize partsL b.data.toList = y at *
      go_enter Try.func24, Try.ntmps24
      go_wp2_with fail
      refine (C1.out _).mono ?_
      rintro e w1 ⟨rfl, hb1⟩
      go_wp2_with fail
      refine (C2.out _).mono ?_
      rintro e w2 ⟨rfl, hb2⟩
      have hB2 := hb1.trans (hb2.mono hb1.size)
      clear hb1 hb2
      go_wp2_with fail
      refine (P1.out _).mono ?_
      rintro e w3 ⟨v1, rfl, ho1, hb3⟩
      have hB3 := hB2.trans (hb3.mono hB2.size)
      clear hB2 hb3
      obtain ⟨A1, k1, rfl, _, _⟩ := (Sl.of_own ho1).form
      go_wp2_with fail
      refine (P2.out _).mono ?_
      rintro e w4 ⟨v2, rfl, ho2, hb4⟩
      have hB4 := hB3.trans (hb4.mono hB3.size)
      have S1 := (Sl.of_own ho1).below hb4 (Nat.le_refl _)
      have S2 := Sl.of_own ho2
      obtain ⟨A2, k2, rfl, _, _⟩ := S2.form
      have HS := hid (And.intro S1 (And.intro S2 (And.intro hB4 hb4.size)))
      clear S1 S2 hB4 hb4 ho1 ho2 hB3
      go_wp2_with fail
      go_loopw [7] (fun i wr => ∃ (n : Nat), i = .int .i64 n ∧ n ≤ x.length ∧ n ≤ y.length ∧ Hid (x.take n = y.take n) ∧ Hid (Below w4.heap.size w4 wr)) (fun i _ => x.length - (intOf i).toNat)
      case atStart => exact ⟨0, rfl, by omega, by omega, by simp [Hid], Below.refl _ _⟩
      case round =>
        obtain ⟨n, rfl, hn1, hn2, HT, HBr⟩ := hrel
        have tail := hid (show ∀ W, Below w4.heap.size w4 W → Calls Try.prog 43 #[.slice A1 n k1, .string ⟨#[46]⟩] W fun e w' => e = .returned (txt (joinL (x.take n))) ∧ w' = W from fun W hW => by
          obtain ⟨S1, S2, _, hsz⟩ := HS.out
          have S3 := (S1.below hW hsz).cut hn1
          rw [map_take] at S3
          have := joinWith_c (.slice A1 n k1) n _ (x.take n) ⟨#[46]⟩ W S3 (by omega) (by have := total_take x n; simp; omega) (by show 1 ≤ 8388608; omega)
          rw [show (⟨#[46]⟩ : ByteArray).data.toList = [46] from rfl, joinS_dot] at this
          exact this)
        have fin := hid (show (n = x.length ∨ n = y.length ∨ x[n]? ≠ y[n]?) → commonOf a.data.toList b.data.toList = joinL (x.take n) from fun h => by
          rw [H.out, cpre_take x y n hn1 hn2 HT.out h])
        by_cases l1 : n < x.length
        · have d1 : decide ((n : Int) < (x.length : Int)) = true := by simp; omega
          by_cases l2 : n < y.length
          · obtain ⟨S1, S2, _, hsz⟩ := HS.out
            obtain ⟨b1, o1, p, rfl, hb1, hp1, hc1⟩ := S1.text l1
            obtain ⟨b2, o2, q, rfl, hb2, hq1, hc2⟩ := S2.text l2
            have hcp : wr.cell? ⟨b1, o1 + n, none⟩ = some (.string p) := (HBr.out.cell (p := ⟨b1, o1 + n, none⟩) (by show b1 < _; omega)).trans hc1
            have hcq : wr.cell? ⟨b2, o2 + n, none⟩ = some (.string q) := (HBr.out.cell (p := ⟨b2, o2 + n, none⟩) (by show b2 < _; omega)).trans hc2
            have d2 : decide ((n : Int) < (y.length : Int)) = true := by simp; omega
            clear hc1 hc2 S1 S2
            by_cases hpq : p.data.toList = q.data.toList
            · have e3 := eq_true_of hpq
              have HE := hid (take_eq_succ x y n HT.out (by rw [hp1, hq1, hpq]))
              clear hp1 hq1 hpq
              go_wp2_with fail
              go_quiet (fail)
              go_wp2_with fail
              go_roundw
              case rel => exact ⟨n + 1, by go_num, by omega, by omega, HE, below_dr HBr.out _⟩
              case measure => simp [intOf]; omega
            · have e3 := eq_false_of hpq
              have HE := hid (fin.out (.inr (.inr (by rw [hp1, hq1]; simpa using hpq))))
              clear hp1 hq1 hpq
              go_wp2_with fail
              go_quiet (fail)
              go_wp2_with fail
              refine (tail.out _ (below_dr HBr.out _)).mono ?_
              rintro e w5 ⟨rfl, rfl⟩
              go_wp2_with fail
              go_ret
              exact ⟨by rw [HE.out]; rfl, HS.out.2.2.1.trans ((below_dr HBr.out _).mono HS.out.2.2.1.size)⟩
          · have d2 : decide ((n : Int) < (y.length : Int)) = false := by simp; omega
            have HE := hid (fin.out (.inr (.inl (by omega))))
            go_wp2_with fail
            go_quiet (fail)
            go_wp2_with fail
            refine (tail.out _ (below_dr HBr.out _)).mono ?_
            rintro e w5 ⟨rfl, rfl⟩
            go_wp2_with fail
            go_ret
            exact ⟨by rw [HE.out]; rfl, HS.out.2.2.1.trans ((below_dr HBr.out _).mono HS.out.2.2.1.size)⟩
        · have d1 : decide ((n : Int) < (x.length : Int)) = false := by simp; omega
          have HE := hid (fin.out (.inl (by omega)))
          go_wp2_with fail
          go_quiet (fail)
          go_wp2_with fail
          refine (tail.out _ (below_dr HBr.out _)).mono ?_
          rintro e w5 ⟨rfl, rfl⟩
          go_wp2_with fail
          go_ret
          exact ⟨by rw [HE.out]; rfl, HS.out.2.2.1.trans ((below_dr HBr.out _).mono HS.out.2.2.1.size)⟩

set_option maxHeartbeats 400000 in
set_option maxRecDepth 100000 in
theorem walk_FnExactCommonName (a b : ByteArray) (w : World) (ha : a.size ≤ maxLen) (hb : b.size ≤ maxLen) :
    Calls Try.prog 10 #[.string a, .string b] w (BoolPost w true) := by
  unfold maxLen at ha hb
  by_cases h1 : (1048576 : Int) < (a.size : Int)
  · go_enter Try.func10, Try.ntmps10
    go_wp2_with fail
    go_ret
    exact ⟨rfl, Below.refl _ _⟩
  by_cases h2 : (1048576 : Int) < (b.size : Int)
  · go_enter Try.func10, Try.ntmps10
    go_wp2_with fail
    go_ret
    exact ⟨rfl, Below.refl _ _⟩
  obtain ⟨x, hx1, hx2⟩ := txt_mk (commonOf a.data.toList b.data.toList)
  have c1 := hid (fun W => implCommon_c a b W (by omega) (by omega))
  have c2 := hid (fun W => specCommon_c a b W (by omega) (by omega))
  rw [hx1] at c1 c2
  have e := eq_true_of (a := x) (b := x) rfl
  clear hx1 hx2
  go_enter Try.func10, Try.ntmps10
  go_wp2_with fail
  refine (c2.out _).mono ?_
  rintro e w1 ⟨rfl, hb1⟩
  go_wp2_with fail
  refine (c1.out _).mono ?_
  rintro e w2 ⟨rfl, hb2⟩
  go_wp2_with fail
  go_ret
  exact ⟨rfl, hb1.trans (hb2.mono hb1.size)⟩
end Go.Proofs.Ytjninonimacmgaa
