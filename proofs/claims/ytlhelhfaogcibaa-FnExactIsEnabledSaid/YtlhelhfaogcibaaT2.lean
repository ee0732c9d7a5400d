/-
  WALKS: isLevel, handlerAt, loggerAt, hasText, differentHandlers, validHandlers (of the program).
-/
import Derived.Test.YtlhelhfaogcibaaT1
import Derived.Test.YtlhelhfaogcibaaM1
namespace Go.Proofs.Ytlhelhfaogcibaa
open Go.RowKit Nm
set_option linter.unusedSimpArgs false
set_option linter.unusedVariables false

/-- the place of a text, -1 if it is not there -/
def idxL (ns : List (List UInt8)) (x : List UInt8) : Int := if x ∈ ns then (ns.idxOf x : Int) else -1
theorem idx_hit (ns : List (List UInt8)) (x : List UInt8) (k : Nat) (h : ns[k]? = some x) (hn : x ∉ ns.take k) : idxL ns x = k := by
  obtain ⟨hk, he⟩ := List.getElem?_eq_some_iff.1 h
  unfold idxL
  rw [if_pos (List.mem_of_getElem? h)]
  have : ns.idxOf x = k := by
    conv => lhs; rw [← List.take_append_drop k ns]
    rw [List.idxOf_append, if_neg hn, List.drop_eq_getElem_cons hk, he]
    simp; omega
  rw [this]
theorem idx_miss (ns : List (List UInt8)) (x : List UInt8) (hn : x ∉ ns) : idxL ns x = -1 := by unfold idxL; rw [if_neg hn]
theorem idx_neg (ns : List (List UInt8)) (x : List UInt8) : (idxL ns x < 0) ↔ x ∉ ns := by
  unfold idxL; split <;> simp_all
theorem not_take_succ (ns : List (List UInt8)) (x y : List UInt8) (k : Nat) (h : x ∉ ns.take k) (hy : ns[k]? = some y) (hne : y ≠ x) : x ∉ ns.take (k + 1) := by
  rw [List.take_add_one, hy]
  simp only [List.mem_append, not_or]
  exact ⟨h, by simpa using fun e => hne e.symm⟩

theorem isLevel_c (n : Int) (w : World) :
    Calls Try.prog 76 #[.int .i64 n] w fun e w' => e = .returned (.bool (lvOk n)) ∧ w' = w := by
  by_cases h0 : 0 ≤ n
  · have HE := hid (show lvOk n = decide (n ≤ 60) by simp [lvOk, h0])
    go_enter Try.func76, Try.ntmps76
    go_wp2
    all_goals go_ret
    all_goals exact ⟨ret_bool (by rw [HE.out]), rfl⟩
  · have h0' : n < 0 := by omega
    have HE := hid (show lvOk n = false by simp [lvOk, h0])
    go_enter Try.func76, Try.ntmps76
    go_wp2
    all_goals go_ret
    all_goals exact ⟨ret_bool (by rw [HE.out]), rfl⟩

def hnames (l : List HndV) : List (List UInt8) := l.map (·.h.nm)
def lnames (l : List LgrV) : List (List UInt8) := l.map (·.l.nm)

set_option maxHeartbeats 1000000 in
set_option maxRecDepth 100000 in
theorem handlerAt_c (v : Value) (n B : Nat) (l : List HndV) (s : ByteArray) (w : World) (hv : Hs w B n v l) :
    Calls Try.prog 84 #[v, .string s] w fun e w' => e = .returned (.int .i64 (idxL (hnames l) s.data.toList)) ∧ w' = w := by
  have hln := hv.count
  obtain ⟨A, c, rfl, hnc, hcm⟩ := hv.1.form
  unfold maxLen at hcm
  have HV := hid (And.intro hv hln)
  clear hv hln
  go_enter Try.func84, Try.ntmps84
  go_wp2_with fail
  go_loop [5] (fun iv => ∃ k : Nat, iv = .int .i64 k ∧ k ≤ n ∧ Hid (s.data.toList ∉ (hnames l).take k)) (fun iv => n - (intOf iv).toNat)
  case atStart => exact ⟨0, rfl, by omega, by simp [Hid]⟩
  case round =>
    obtain ⟨k, rfl, hk, HN⟩ := hrel
    by_cases hlt : k < n
    · obtain ⟨b, o, x, t, rfl, hb, hx, ht, _, _, g0, _, _⟩ := HV.out.1.at_ hlt
      have hxn : (hnames l)[k]? = some t.data.toList := by unfold hnames; rw [List.getElem?_map, hx, ht]; rfl
      have HX := hid hxn
      clear hx ht hxn
      by_cases he : t.data.toList = s.data.toList
      · have e1 := eq_true_of he
        have HE := hid (idx_hit _ _ k (by rw [HX.out, he]) HN.out)
        clear he
        go_wp2_with fail
        go_ret
        exact ⟨ret_int HE.out.symm, rfl⟩
      · have e1 := eq_false_of he
        have HE := hid (not_take_succ _ _ _ _ HN.out HX.out he)
        clear he
        go_wp2_with fail
        refine ⟨⟨k + 1, by go_num, by omega, HE⟩, by simp [intOf]; omega⟩
    · have HE := hid (idx_miss (hnames l) s.data.toList (by have := HN.out; rwa [List.take_of_length_le (by unfold hnames; simp; have := HV.out.2; omega)] at this))
      go_wp2_with fail
      go_ret
      exact ⟨ret_int HE.out.symm, rfl⟩

set_option maxHeartbeats 1000000 in
set_option maxRecDepth 100000 in
theorem loggerAt_c (v : Value) (n B : Nat) (l : List LgrV) (s : ByteArray) (w : World) (hv : Ls w B n v l) :
    Calls Try.prog 51 #[v, .string s] w fun e w' => e = .returned (.int .i64 (idxL (lnames l) s.data.toList)) ∧ w' = w := by
  have hln := hv.count
  obtain ⟨A, c, rfl, hnc, hcm⟩ := hv.1.form
  unfold maxLen at hcm
  have HV := hid (And.intro hv hln)
  clear hv hln
  go_enter Try.func51, Try.ntmps51
  go_wp2_with fail
  go_loop [5] (fun iv => ∃ k : Nat, iv = .int .i64 k ∧ k ≤ n ∧ Hid (s.data.toList ∉ (lnames l).take k)) (fun iv => n - (intOf iv).toNat)
  case atStart => exact ⟨0, rfl, by omega, by simp [Hid]⟩
  case round =>
    obtain ⟨k, rfl, hk, HN⟩ := hrel
    by_cases hlt : k < n
    · obtain ⟨b, o, x, t, rfl, hb, hx, ht, _, _, _, g0, _⟩ := HV.out.1.at_ hlt
      have hxn : (lnames l)[k]? = some t.data.toList := by unfold lnames; rw [List.getElem?_map, hx, ht]; rfl
      have HX := hid hxn
      clear hx ht hxn
      by_cases he : t.data.toList = s.data.toList
      · have e1 := eq_true_of he
        have HE := hid (idx_hit _ _ k (by rw [HX.out, he]) HN.out)
        clear he
        go_wp2_with fail
        go_ret
        exact ⟨ret_int HE.out.symm, rfl⟩
      · have e1 := eq_false_of he
        have HE := hid (not_take_succ _ _ _ _ HN.out HX.out he)
        clear he
        go_wp2_with fail
        refine ⟨⟨k + 1, by go_num, by omega, HE⟩, by simp [intOf]; omega⟩
    · have HE := hid (idx_miss (lnames l) s.data.toList (by have := HN.out; rwa [List.take_of_length_le (by unfold lnames; simp; have := HV.out.2; omega)] at this))
      go_wp2_with fail
      go_ret
      exact ⟨ret_int HE.out.symm, rfl⟩

theorem Txts.text {w : World} {B n c : Nat} {A : Option Addr} {ws : List (List UInt8)} (h : Txts w B n (.slice A n c) ws) {k : Nat} (hk : k < n) :
    ∃ b o p, A = some ⟨b, o, none⟩ ∧ b < B ∧ ws[k]? = some p.data.toList ∧ p.size ≤ maxTxt ∧ w.cell? ⟨b, o + k, none⟩ = some (.string p) := by
  have hl := h.count
  obtain ⟨hl1, A', c', he, h2, h3, h4⟩ := h.1
  obtain ⟨rfl, rfl⟩ : A = A' ∧ c = c' := by simpa using he
  obtain ⟨b, o, e, hb, hc⟩ := h4 (by omega)
  obtain ⟨p, hp1, hp2⟩ := txt_at ws k (by omega)
  exact ⟨b, o, p, e, hb, hp1, by rw [Lib.size_eq]; exact h.2 _ (List.mem_of_getElem? hp1), hc k _ hp2⟩

set_option maxHeartbeats 1000000 in
set_option maxRecDepth 100000 in
theorem hasText_c (v : Value) (n B : Nat) (l : List (List UInt8)) (s : ByteArray) (w : World) (hv : Txts w B n v l) :
    Calls Try.prog 85 #[v, .string s] w fun e w' => e = .returned (.bool (decide (s.data.toList ∈ l))) ∧ w' = w := by
  have hln := hv.count
  obtain ⟨A, c, rfl, hnc, hcm⟩ := hv.1.form
  unfold maxLen at hcm
  have HV := hid (And.intro hv hln)
  clear hv hln
  go_enter Try.func85, Try.ntmps85
  go_wp2_with fail
  go_loop [5] (fun iv => ∃ k : Nat, iv = .int .i64 k ∧ k ≤ n ∧ Hid (s.data.toList ∉ l.take k)) (fun iv => n - (intOf iv).toNat)
  case atStart => exact ⟨0, rfl, by omega, by simp [Hid]⟩
  case round =>
    obtain ⟨k, rfl, hk, HN⟩ := hrel
    by_cases hlt : k < n
    · obtain ⟨b, o, t, rfl, hb, hxn, _, g0⟩ := HV.out.1.text hlt
      have HX := hid hxn
      clear hxn
      by_cases he : t.data.toList = s.data.toList
      · have e1 := eq_true_of he
        have HE := hid (show decide (s.data.toList ∈ l) = true from decide_eq_true (by rw [← he]; exact List.mem_of_getElem? HX.out))
        clear he
        go_wp2_with fail
        go_ret
        exact ⟨ret_bool HE.out.symm, rfl⟩
      · have e1 := eq_false_of he
        have HE := hid (not_take_succ _ _ _ _ HN.out HX.out he)
        clear he
        go_wp2_with fail
        refine ⟨⟨k + 1, by go_num, by omega, HE⟩, by simp [intOf]; omega⟩
    · have HE := hid (show decide (s.data.toList ∈ l) = false from decide_eq_false (by have := HN.out; rwa [List.take_of_length_le (by have := HV.out.2; omega)] at this))
      go_wp2_with fail
      go_ret
      exact ⟨ret_bool HE.out.symm, rfl⟩
end Go.Proofs.Ytlhelhfaogcibaa
