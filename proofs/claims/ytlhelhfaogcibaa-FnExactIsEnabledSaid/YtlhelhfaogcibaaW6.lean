/-
  WALKS: joinWith; the common name by the model; the law FnExactCommonName.
-/
import Derived.Test.YtlhelhfaogcibaaW5
namespace Go.Proofs.Ytlhelhfaogcibaa
open Go.RowKit Nm
set_option linter.unusedSimpArgs false
set_option linter.unusedVariables false

theorem joinS_take (s : List UInt8) (ws : List (List UInt8)) (k : Nat) (x : List UInt8) (hx : ws[k]? = some x) :
    joinS s (ws.take (k + 1)) = if k = 0 then x else joinS s (ws.take k) ++ (s ++ x) := by
  have hk : k < ws.length := (List.getElem?_eq_some_iff.1 hx).1
  rw [List.take_add_one, hx]
  show joinS s (ws.take k ++ [x]) = _
  rw [joinS_snoc]
  by_cases h : k = 0
  · subst h; simp
  · rw [if_neg h, if_neg]
    intro e
    have := congrArg List.length e
    simp at this
    rcases this with h1 | h1
    · exact h h1
    · rw [h1] at hk; simp at hk
theorem joinS_bound (s : List UInt8) (ws : List (List UInt8)) (k : Nat) : (joinS s (ws.take k)).length ≤ total ws + s.length * ws.length := by
  have h1 := joinS_len s (ws.take k)
  have h2 := total_take ws k
  have h3 : s.length * (ws.take k).length ≤ s.length * ws.length := Nat.mul_le_mul (Nat.le_refl _) (by rw [List.length_take]; omega)
  omega
theorem elem_total (ws : List (List UInt8)) (k : Nat) (x : List UInt8) (hx : ws[k]? = some x) : x.length ≤ total ws := len_le_total _ _ (List.mem_of_getElem? hx)

set_option maxHeartbeats 2000000 in
set_option maxRecDepth 100000 in
theorem joinWith_c (v : Value) (n B : Nat) (ws : List (List UInt8)) (sep : ByteArray) (w : World) (hv : Sl w B 1 n v (ws.map txt)) (hn : n ≤ 4194304) (ht : total ws + sep.data.toList.length * ws.length ≤ 8388608) (hsp : sep.size ≤ 8388608) :
    Calls Try.prog 91 #[v, .string sep] w fun e w' => e = .returned (txt (joinS sep.data.toList ws)) ∧ w' = w := by
  obtain ⟨hl, A, c, rfl, hnc, hcm, hA⟩ := hv
  have hln : ws.length = n := by simpa using hl
  have HA := hid (And.intro hA (And.intro hln ht))
  clear hl hA hln ht
  go_enter Try.func91, Try.ntmps91
  go_wp2_with fail
  go_loop [5, 6] (fun out i => ∃ (x : ByteArray) (k : Nat), i = .int .i64 k ∧ k ≤ n ∧ out = .string x ∧ Hid (x.data.toList = joinS sep.data.toList (ws.take k))) (fun _ i => n - (intOf i).toNat)
  case atStart => exact ⟨ByteArray.empty, 0, rfl, by omega, rfl, by show _ = _; simp [joinS]⟩
  case round =>
    obtain ⟨x, k, rfl, hk, rfl, HX⟩ := hrel
    obtain ⟨hA, hln, ht⟩ := HA.out
    by_cases hlt : k < n
    · obtain ⟨b, o, rfl, hbB, hcell⟩ := hA (by omega)
      obtain ⟨y, hy1, hy2⟩ := txt_at ws k (by omega)
      have hcy := hcell k _ hy2
      have hy3 := elem_total _ _ _ hy1
      rw [← Lib.size_eq] at hy3
      have hx3 : x.size ≤ total ws + sep.data.toList.length * ws.length := by rw [Lib.size_eq, HX.out]; exact joinS_bound _ _ _
      have hj := joinS_take sep.data.toList ws k _ hy1
      have hxb : x.size ≤ 8388608 := by omega
      have hyb : y.size ≤ 8388608 := by omega
      have HJ := hid hj
      clear hj hcell hy1 hy2 hA ht hln hx3 hy3
      by_cases h0 : 0 < k
      · go_wp2_with fail
        refine ⟨⟨_, k + 1, by go_num, by omega, rfl, ?_⟩, by simp [intOf]; omega⟩
        show _ = _
        rw [HJ.out, if_neg (by omega)]
        simp only [ByteArray.data_append, Array.toList_append, HX.out, List.append_assoc]
      · obtain rfl : k = 0 := by omega
        have hx0 : x = ByteArray.empty := (bytes_eq_iff _ _).1 (by rw [HX.out]; simp [joinS])
        subst hx0
        simp only [Nat.add_zero] at hcy
        go_wp2_with fail
        refine ⟨⟨_, 1, by go_num, by omega, rfl, ?_⟩, by simp [intOf]; omega⟩
        show _ = _
        rw [HJ.out, if_pos rfl]
    · have hk2 : k = n := by omega
      have HE := hid (show txt (joinS sep.data.toList ws) = .string x by
        rw [← txt_data, HX.out, List.take_of_length_le (by omega)])
      clear hA ht hln
      go_wp2_with fail
      go_ret
      exact ⟨by rw [HE.out]; rfl, rfl⟩

theorem Sl.parts_ {w : World} {B sz n : Nat} {v : Value} {xs : List Value} (h : Sl w B sz n v xs) : ∃ A c, v = .slice A n c ∧ n ≤ c ∧ c ≤ maxLen ∧ xs.length = n * sz ∧
    (0 < n → ∃ b o, A = some ⟨b, o, none⟩ ∧ b < B ∧ ∀ j u, xs[j]? = some u → w.cell? ⟨b, o + j, none⟩ = some u) := by
  obtain ⟨hl, A, c, h1, h2, h3, h4⟩ := h
  exact ⟨A, c, h1, h2, h3, hl, h4⟩
/-- a slice's first k elements -/
theorem Sl.cut {w : World} {B n c : Nat} {A : Option Addr} {xs : List Value} (h : Sl w B 1 n (.slice A n c) xs) {k : Nat} (hk : k ≤ n) : Sl w B 1 k (.slice A k c) (xs.take k) := by
  obtain ⟨A', c', he, h2, h3, hl, h4⟩ := h.parts_
  obtain ⟨rfl, -, rfl⟩ : A = A' ∧ n = n ∧ c = c' := by simpa using he
  refine ⟨by simp; omega, A, c, rfl, by omega, h3, fun hk0 => ?_⟩
  obtain ⟨b, o, e, hb, hc⟩ := h4 (by omega)
  refine ⟨b, o, e, hb, fun j u hu => hc j u ?_⟩
  rw [List.getElem?_take] at hu
  split at hu
  · exact hu
  · cases hu
theorem Sl.text {w : World} {B n c : Nat} {A : Option Addr} {ws : List (List UInt8)} (h : Sl w B 1 n (.slice A n c) (ws.map txt)) {k : Nat} (hk : k < n) :
    ∃ b o p, A = some ⟨b, o, none⟩ ∧ b < B ∧ ws[k]? = some p.data.toList ∧ w.cell? ⟨b, o + k, none⟩ = some (.string p) := by
  obtain ⟨A', c', he, h2, h3, hl, h4⟩ := h.parts_
  obtain ⟨rfl, rfl⟩ : A = A' ∧ c = c' := by simpa using he
  obtain ⟨b, o, e, hb, hc⟩ := h4 (by omega)
  obtain ⟨p, hp1, hp2⟩ := txt_at ws k (by simp at hl; omega)
  exact ⟨b, o, p, e, hb, hp1, hc k _ hp2⟩
theorem map_take (ws : List (List UInt8)) (k : Nat) : (ws.map txt).take k = (ws.take k).map txt := by rw [List.map_take]

end Go.Proofs.Ytlhelhfaogcibaa
