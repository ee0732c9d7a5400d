/-
  WALKS: filters (impl.isWord, validFilter, ValidFilters; spec.validFilters, ValidFilters).
-/
import Derived.Test.YtlhelhfaogcibaaW4
namespace Go.Proofs.Ytlhelhfaogcibaa
open Go.RowKit Nm
set_option linter.unusedSimpArgs false
set_option linter.unusedVariables false

structure Flt where
  k : Int
  nm : List UInt8
  n : Int
def fltOk (f : Flt) : Bool :=
  if f.k = 0 then !decide (f.nm = []) && (nameOk f.nm && decide (f.n = 0))
  else if f.k = 2 then wordOk f.nm && decide (f.n = 0)
  else if f.k = 1 ∨ f.k = 3 then decide (f.nm = []) && (decide (1 ≤ f.n) && decide (f.n ≤ 60))
  else false
def filtersOk (l : List Flt) : Bool := l.all fltOk && decide (l.length ≤ 3)
def fcells (f : Flt) : List Value := [.int .i64 f.k, txt f.nm, .int .i64 f.n]
def fsCells (l : List Flt) : List Value := l.flatMap fcells

theorem wordOk_wlen (l : List UInt8) (hne : l ≠ []) : wordOk l = decide (wlen l = l.length) := by
  rw [Bool.eq_iff_iff, decide_eq_true_eq]
  constructor
  · intro h
    have e : l.takeWhile (· != 46) = l := by
      rcases takeWhile_spec l with e | ⟨r, e⟩
      · exact e
      · exact absurd rfl (wordOk_nodot l h 46 (by rw [e]; simp))
    unfold wlen; rw [e, if_pos h]
  · intro h
    have hl : 0 < l.length := List.length_pos_iff.2 hne
    unfold wlen at h
    split at h
    · rename_i hw
      have e : l.takeWhile (· != 46) = l := (List.takeWhile_prefix _).eq_of_length_le (by omega)
      rwa [e] at hw
    · omega

theorem isWord_c (s : ByteArray) (w : World) (hs : s.size ≤ maxLen) :
    Calls Try.prog 92 #[.string s] w (BoolPost w (wordOk s.data.toList)) := by
  have hs' := hs
  unfold maxLen at hs'
  by_cases hne : s.data.toList = []
  · have e1 := empty_true hne
    have HE := hid (show wordOk s.data.toList = false by rw [hne]; rfl)
    clear hne
    go_enter Try.func92, Try.ntmps92
    go_wp2_with fail
    go_ret
    exact ⟨ret_bool (by rw [HE.out]), Below.refl _ _⟩
  · have e1 := empty_false hne
    have hc := hid (fun W => wordLength_c s W hs)
    have HE := hid (wordOk_wlen _ hne)
    rw [← Lib.size_eq] at HE
    generalize wlen s.data.toList = n at hc HE
    clear hne
    go_enter Try.func92, Try.ntmps92
    go_wp2_with fail
    refine (hc.out _).mono ?_
    rintro e w1 ⟨rfl, hb⟩
    go_wp2_with fail
    go_ret
    exact ⟨ret_bool (by rw [HE.out, Bool.eq_iff_iff]; simp; omega), hb⟩

set_option maxHeartbeats 2000000 in
set_option maxRecDepth 100000 in
theorem implValidFilter_c (k n : Int) (s : ByteArray) (w : World) (hs : s.size ≤ maxLen) :
    Calls Try.prog 101 #[.agg #[.int .i64 k, .string s, .int .i64 n]] w (BoolPost w (fltOk ⟨k, s.data.toList, n⟩)) := by
  have hb0 : Below w.heap.size w (w.alloc (.cells #[.int .i64 k, .string s, .int .i64 n] 112)) := (Below.refl _ _).alloc (Nat.le_refl _) _
  have HB := hid hb0
  clear hb0
  by_cases k0 : k = 0
  · subst k0
    by_cases hne : s.data.toList = []
    · have e1 := empty_true hne
      have HE := hid (show fltOk ⟨0, s.data.toList, n⟩ = false by simp [fltOk, hne])
      clear hne
      go_enter Try.func101, Try.ntmps101
      go_wp2_with fail
      go_ret
      exact ⟨ret_bool (by rw [HE.out]), HB.out⟩
    · have e1 := empty_false hne
      have hc := hid (fun W => implValidName_c s W hs)
      have HE := hid (show fltOk ⟨0, s.data.toList, n⟩ = (nameOk s.data.toList && decide (n = 0)) by simp [fltOk, hne])
      generalize nameOk s.data.toList = x at hc HE
      clear hne
      go_enter Try.func101, Try.ntmps101
      go_wp2_with fail
      refine (hc.out _).mono ?_
      rintro e w1 ⟨rfl, hb⟩
      have c2 : w1.cell? ⟨w.heap.size, 2, none⟩ = some (.int .i64 n) := by
        have := hb.cell (p := ⟨w.heap.size, 2, none⟩) (by simp)
        rw [this]; exact cell_of_row _ _ _ _ _ _ (heap_alloc_new w _)
      cases x with
      | false =>
        go_wp2_with fail
        go_ret
        exact ⟨ret_bool (by rw [HE.out]; rfl), HB.out.trans (hb.mono (by simp))⟩
      | true =>
        go_wp2_with fail
        go_ret
        exact ⟨ret_bool (by rw [HE.out, Bool.eq_iff_iff]; simp), HB.out.trans (hb.mono (by simp))⟩
  have b0 : (k == 0) = false := by simpa using k0
  by_cases k2 : k = 2
  · subst k2
    have hc := hid (fun W => isWord_c s W hs)
    have HE := hid (show fltOk ⟨2, s.data.toList, n⟩ = (wordOk s.data.toList && decide (n = 0)) by simp [fltOk])
    generalize wordOk s.data.toList = x at hc HE
    clear k0
    go_enter Try.func101, Try.ntmps101
    go_wp2_with fail
    refine (hc.out _).mono ?_
    rintro e w1 ⟨rfl, hb⟩
    have c2 : w1.cell? ⟨w.heap.size, 2, none⟩ = some (.int .i64 n) := by
      have := hb.cell (p := ⟨w.heap.size, 2, none⟩) (by simp)
      rw [this]; exact cell_of_row _ _ _ _ _ _ (heap_alloc_new w _)
    cases x with
    | false =>
      go_wp2_with fail
      go_ret
      exact ⟨ret_bool (by rw [HE.out]; rfl), HB.out.trans (hb.mono (by simp))⟩
    | true =>
      go_wp2_with fail
      go_ret
      exact ⟨ret_bool (by rw [HE.out, Bool.eq_iff_iff]; simp), HB.out.trans (hb.mono (by simp))⟩
  have b2 : (k == 2) = false := by simpa using k2
  by_cases k13 : k = 1 ∨ k = 3
  · have HE := hid (show fltOk ⟨k, s.data.toList, n⟩ = (decide (s.data.toList = []) && (decide (1 ≤ n) && decide (n ≤ 60))) by simp [fltOk, k0, k2, k13])
    have hm : ∃ b1 b3 : Bool, (k == 1) = b1 ∧ (k == 3) = b3 ∧ (b1 || b3) = true := ⟨_, _, rfl, rfl, by simpa using k13⟩
    obtain ⟨b1, b3, h1, h3, h13⟩ := hm
    clear k13 k0 k2
    by_cases hne : s.data.toList = []
    · have e1 := empty_true hne
      rw [decide_eq_true hne, Bool.true_and] at HE
      clear hne
      by_cases n1 : 1 ≤ n
      · cases b1 with
        | true =>
          go_enter Try.func101, Try.ntmps101
          go_wp2_with fail
          all_goals go_ret
          all_goals exact ⟨ret_bool (by rw [HE.out, Bool.eq_iff_iff]; simp; omega), HB.out⟩
        | false =>
          cases b3 with
          | false => simp at h13
          | true =>
            go_enter Try.func101, Try.ntmps101
            go_wp2_with fail
            all_goals go_ret
            all_goals exact ⟨ret_bool (by rw [HE.out, Bool.eq_iff_iff]; simp; omega), HB.out⟩
      · have n1' : n < 1 := by omega
        cases b1 with
        | true =>
          go_enter Try.func101, Try.ntmps101
          go_wp2_with fail
          all_goals go_ret
          all_goals exact ⟨ret_bool (by rw [HE.out, Bool.eq_iff_iff]; simp; omega), HB.out⟩
        | false =>
          cases b3 with
          | false => simp at h13
          | true =>
            go_enter Try.func101, Try.ntmps101
            go_wp2_with fail
            all_goals go_ret
            all_goals exact ⟨ret_bool (by rw [HE.out, Bool.eq_iff_iff]; simp; omega), HB.out⟩
    · have e1 := empty_false hne
      rw [decide_eq_false hne, Bool.false_and] at HE
      clear hne
      cases b1 with
      | true =>
        go_enter Try.func101, Try.ntmps101
        go_wp2_with fail
        all_goals go_ret
        all_goals exact ⟨ret_bool (by rw [HE.out]), HB.out⟩
      | false =>
        cases b3 with
        | false => simp at h13
        | true =>
          go_enter Try.func101, Try.ntmps101
          go_wp2_with fail
          all_goals go_ret
          all_goals exact ⟨ret_bool (by rw [HE.out]), HB.out⟩
  · have b1 : (k == 1) = false := by
      rw [beq_eq_false_iff_ne]; exact fun h => k13 (.inl h)
    have b3 : (k == 3) = false := by
      rw [beq_eq_false_iff_ne]; exact fun h => k13 (.inr h)
    have HE := hid (show fltOk ⟨k, s.data.toList, n⟩ = false by simp [fltOk, k0, k2, k13])
    clear k13 k0 k2
    go_enter Try.func101, Try.ntmps101
    go_wp2_with fail
    all_goals go_ret
    all_goals exact ⟨ret_bool (by rw [HE.out]), HB.out⟩

theorem fsCells_len (l : List Flt) : (fsCells l).length = l.length * 3 := by
  induction l with
  | nil => rfl
  | cons f l ih => simp only [fsCells, List.flatMap_cons, List.length_append, List.length_cons] at ih ⊢; rw [ih]; show 3 + _ = _; omega
theorem fsCells_at (l : List Flt) (i j : Nat) (f : Flt) (h : l[i]? = some f) (hj : j < 3) : (fsCells l)[i * 3 + j]? = (fcells f)[j]? := by
  induction l generalizing i with
  | nil => simp at h
  | cons g l ih =>
    cases i with
    | zero =>
      simp only [List.getElem?_cons_zero, Option.some.injEq] at h
      subst h
      simp only [fsCells, List.flatMap_cons, Nat.zero_mul, Nat.zero_add]
      rw [List.getElem?_append_left (by show j < 3; exact hj)]
    | succ i =>
      have := ih i (by simpa using h)
      simp only [fsCells, List.flatMap_cons] at this ⊢
      rw [List.getElem?_append_right (by show 3 ≤ _; omega), show (i + 1) * 3 + j - (fcells g).length = i * 3 + j by show (i + 1) * 3 + j - 3 = _; omega]
      exact this
/-- filters that lie in memory below block B, and whose names are texts that fit -/
def Fs (w : World) (B n : Nat) (v : Value) (l : List Flt) : Prop := Sl w B 3 n v (fsCells l) ∧ ∀ f ∈ l, f.nm.length ≤ 1048576
theorem Fs.len {w : World} {B n : Nat} {v : Value} {l : List Flt} (h : Fs w B n v l) : l.length = n := by
  have := h.1.1; rw [fsCells_len] at this; omega
theorem Fs.at_ {w : World} {B n c : Nat} {A : Option Addr} {l : List Flt} (h : Fs w B n (.slice A n c) l) {k : Nat} (hk : k < n) :
    ∃ b o f s, A = some ⟨b, o, none⟩ ∧ b < B ∧ l[k]? = some f ∧ s.size ≤ 1048576 ∧ f = ⟨f.k, s.data.toList, f.n⟩ ∧ w.cell? ⟨b, o + k * 3, none⟩ = some (.int .i64 f.k) ∧ w.cell? ⟨b, o + k * 3 + 1, none⟩ = some (.string s) ∧ w.cell? ⟨b, o + k * 3 + 2, none⟩ = some (.int .i64 f.n) := by
  have hl := h.len
  obtain ⟨hl3, A', c', he, h2, h3, h4⟩ := h.1
  obtain ⟨rfl, rfl⟩ : A = A' ∧ c = c' := by simpa using he
  obtain ⟨b, o, e, hb, hc⟩ := h4 (by omega)
  have hf : l[k]? = some (l[k]'(by omega)) := List.getElem?_eq_getElem (by omega)
  generalize l[k]'(by omega) = f at hf
  have g0 := hc (k * 3 + 0) (.int .i64 f.k) (by rw [fsCells_at l k 0 f hf (by omega)]; rfl)
  have g1 := hc (k * 3 + 1) (txt f.nm) (by rw [fsCells_at l k 1 f hf (by omega)]; rfl)
  have g2 := hc (k * 3 + 2) (.int .i64 f.n) (by rw [fsCells_at l k 2 f hf (by omega)]; rfl)
  refine ⟨b, o, f, ⟨f.nm.toArray⟩, e, hb, hf, ?_, ?_, ?_, ?_, ?_⟩
  · rw [Lib.size_eq]; simp; exact h.2 f (List.mem_of_getElem? hf)
  · cases f; simp
  · rw [← g0]; rfl
  · rw [show o + k * 3 + 1 = o + (k * 3 + 1) from by omega, g1]; rfl
  · rw [show o + k * 3 + 2 = o + (k * 3 + 2) from by omega, g2]
theorem filters_step (l : List Flt) (k : Nat) (f : Flt) (h : (l.take k).all fltOk = true) (hf : l[k]? = some f) (ho : fltOk f = true) : (l.take (k + 1)).all fltOk = true := by
  rw [List.take_add_one, hf]; simp [List.all_append, h, ho]
theorem filters_no (l : List Flt) (k : Nat) (f : Flt) (hf : l[k]? = some f) (ho : fltOk f = false) : filtersOk l = false := by
  cases hn : filtersOk l with
  | false => rfl
  | true =>
    simp only [filtersOk, Bool.and_eq_true, List.all_eq_true] at hn
    have := hn.1 f (List.mem_of_getElem? hf)
    rw [ho] at this; cases this

set_option maxHeartbeats 2000000 in
set_option maxRecDepth 100000 in
theorem implValidFilters_c (v : Value) (n B : Nat) (l : List Flt) (w : World) (hv : Fs w B n v l) (hB : B ≤ w.heap.size) :
    Calls Try.prog 93 #[v] w (BoolPost w (filtersOk l)) := by
  have hln := hv.len
  obtain ⟨A, c, rfl, hnc, hcm⟩ := hv.1.form
  unfold maxLen at hcm
  by_cases h3 : (3 : Int) < (n : Int)
  · have HE := hid (show filtersOk l = false by
      unfold filtersOk
      rw [decide_eq_false (show ¬ l.length ≤ 3 by omega), Bool.and_false])
    clear hln hv
    go_enter Try.func93, Try.ntmps93
    go_wp2_with fail
    go_ret
    exact ⟨ret_bool HE.out.symm, Below.refl _ _⟩
  have HV := hid (And.intro hv hln)
  clear hv hln
  go_enter Try.func93, Try.ntmps93
  go_wp2_with fail
  go_loopw [10] (fun iv wr => ∃ k : Nat, iv = .int .i64 k ∧ k ≤ n ∧ Hid ((l.take k).all fltOk = true) ∧ Hid (Below w.heap.size w wr)) (fun iv _ => n - (intOf iv).toNat)
  case atStart => exact ⟨0, rfl, by omega, by simp [Hid], Below.refl _ _⟩
  case round =>
    obtain ⟨k, rfl, hk, HL, HB⟩ := hrel
    by_cases hlt : k < n
    · obtain ⟨b, o, f, s, rfl, hbB, hf, hs, hfe, g0, g1, g2⟩ := HV.out.1.at_ hlt
      have c0 : wr.cell? ⟨b, o + k * 3, none⟩ = some (.int .i64 f.k) := (HB.out.cell (p := ⟨b, o + k * 3, none⟩) (by show b < _; omega)).trans g0
      have c1 : wr.cell? ⟨b, o + k * 3 + 1, none⟩ = some (.string s) := (HB.out.cell (p := ⟨b, o + k * 3 + 1, none⟩) (by show b < _; omega)).trans g1
      have c2 : wr.cell? ⟨b, o + k * 3 + 2, none⟩ = some (.int .i64 f.n) := (HB.out.cell (p := ⟨b, o + k * 3 + 2, none⟩) (by show b < _; omega)).trans g2
      have hcall := fun W => implValidFilter_c f.k f.n s W (by unfold maxLen; omega)
      rw [← hfe] at hcall
      have HF := hid (And.intro hf hfe)
      have hsz := HB.out.size
      clear hf hfe g0 g1 g2
      cases ho : fltOk f with
      | true =>
        rw [ho] at hcall
        have HO := hid ho
        have HC := hid hcall
        clear ho hcall
        go_wp2_with fail
        refine (HC.out _).mono ?_
        rintro e w1 ⟨rfl, hb⟩
        have HB1 := hid ((HB.out.alloc hsz (.cells #[.int .i64 f.k, .string s, .int .i64 f.n] 112)).trans (hb.mono (by simp; omega)))
        clear hb
        go_wp2_with fail
        go_roundw
        case rel => exact ⟨k + 1, by go_num, by omega, filters_step _ _ _ HL.out HF.out.1 HO.out, HB1.out⟩
        case measure => simp [intOf]; omega
      | false =>
        rw [ho] at hcall
        have HO := hid ho
        have HC := hid hcall
        clear ho hcall
        go_wp2_with fail
        refine (HC.out _).mono ?_
        rintro e w1 ⟨rfl, hb⟩
        have HB1 := hid ((HB.out.alloc hsz (.cells #[.int .i64 f.k, .string s, .int .i64 f.n] 112)).trans (hb.mono (by simp; omega)))
        clear hb
        go_wp2_with fail
        go_ret
        exact ⟨ret_bool (filters_no _ _ _ HF.out.1 HO.out).symm, HB1.out⟩
    · have HE := hid (show filtersOk l = true by
        have h1 := HL.out
        rw [List.take_of_length_le (by have := HV.out.2; omega)] at h1
        unfold filtersOk
        rw [h1, decide_eq_true (show l.length ≤ 3 by have := HV.out.2; omega)]; rfl)
      go_wp2_with fail
      go_ret
      exact ⟨ret_bool HE.out.symm, HB.out⟩

theorem flt0 (f : Flt) (h : f.k = 0) : fltOk f = (!decide (f.nm = []) && (nameOk f.nm && decide (f.n = 0))) := by simp [fltOk, h]
theorem flt2 (f : Flt) (h : f.k = 2) : fltOk f = (wordOk f.nm && decide (f.n = 0)) := by simp [fltOk, h]
theorem flt13 (f : Flt) (h : f.k = 1 ∨ f.k = 3) : fltOk f = (decide (f.nm = []) && (decide (1 ≤ f.n) && decide (f.n ≤ 60))) := by
  rcases h with h | h <;> simp [fltOk, h]
theorem fltx (f : Flt) (h0 : ¬ f.k = 0) (h2 : ¬ f.k = 2) (h13 : ¬ (f.k = 1 ∨ f.k = 3)) : fltOk f = false := by simp [fltOk, h0, h2, h13]

set_option maxHeartbeats 4000000 in
set_option maxRecDepth 100000 in
theorem validFilters_c (v : Value) (n B : Nat) (l : List Flt) (w : World) (hv : Fs w B n v l) (hB : B ≤ w.heap.size) :
    Calls Try.prog 86 #[v] w (BoolPost w (filtersOk l)) := by
  have hln := hv.len
  obtain ⟨A, c, rfl, hnc, hcm⟩ := hv.1.form
  unfold maxLen at hcm
  have HV := hid (And.intro hv hln)
  clear hv hln
  go_enter Try.func86, Try.ntmps86
  go_wp2_with fail
  go_loopw [3] (fun iv wr => ∃ k : Nat, iv = .int .i64 k ∧ k ≤ n ∧ Hid ((l.take k).all fltOk = true) ∧ Hid (Below w.heap.size w wr)) (fun iv _ => n - (intOf iv).toNat)
  case atStart => exact ⟨0, rfl, by omega, by simp [Hid], Below.refl _ _⟩
  case round =>
    obtain ⟨k, rfl, hk, HL, HB⟩ := hrel
    by_cases hlt : k < n
    · obtain ⟨b, o, f, s, rfl, hbB, hf, hs, hfe, g0, g1, g2⟩ := HV.out.1.at_ hlt
      have c0 : wr.cell? ⟨b, o + k * 3, none⟩ = some (.int .i64 f.k) := (HB.out.cell (p := ⟨b, o + k * 3, none⟩) (by show b < _; omega)).trans g0
      have c1 : wr.cell? ⟨b, o + k * 3 + 1, none⟩ = some (.string s) := (HB.out.cell (p := ⟨b, o + k * 3 + 1, none⟩) (by show b < _; omega)).trans g1
      have c2 : wr.cell? ⟨b, o + k * 3 + 2, none⟩ = some (.int .i64 f.n) := (HB.out.cell (p := ⟨b, o + k * 3 + 2, none⟩) (by show b < _; omega)).trans g2
      have hnm : f.nm = s.data.toList := by rw [hfe]
      have HF := hid (And.intro hf hnm)
      have hsz := HB.out.size
      have HBX := hid (HB.out.alloc hsz (.cells #[.int .i64 f.k, .string s, .int .i64 f.n] 112))
      have CX := hid (fun (W : World) (hb : Below (wr.alloc (.cells #[.int .i64 f.k, .string s, .int .i64 f.n] 112)).heap.size (wr.alloc (.cells #[.int .i64 f.k, .string s, .int .i64 f.n] 112)) W) (j : Nat) =>
        (hb.cell (p := ⟨wr.heap.size, j, none⟩) (by simp)).trans (cell_of_row _ wr.heap.size j _ _ _ (heap_alloc_new wr _)))
      clear hf hfe hnm g0 g1 g2
      by_cases k0 : f.k = 0
      · have HE := hid (flt0 f k0)
        rw [HF.out.2] at HE
        have b0 : (f.k == 0) = true := by simpa using k0
        have V := hid (fun W => validName_c s W hs)
        generalize nameOk s.data.toList = x at V HE
        clear k0
        go_wp2_with fail
        refine (V.out _).mono ?_
        rintro e w1 ⟨rfl, hb⟩
        have d1 : w1.cell? ⟨wr.heap.size, 1, none⟩ = some (.string s) := CX.out w1 hb 1
        have d2 : w1.cell? ⟨wr.heap.size, 2, none⟩ = some (.int .i64 f.n) := CX.out w1 hb 2
        have HBX := hid (HBX.out.trans (hb.mono (by simp; omega)))
        clear hb
        cases x with
        | false =>
          have HO := hid (show fltOk f = false by rw [HE.out]; simp)
          go_wp2_with fail
          go_ret
          exact ⟨ret_bool (filters_no _ _ _ HF.out.1 HO.out).symm, HBX.out⟩
        | true =>
          by_cases hne : s.data.toList = []
          · have e1 := empty_true hne
            rw [decide_eq_true hne] at HE
            clear hne
            have HO := hid (show fltOk f = false by rw [HE.out]; rfl)
            go_wp2_with fail
            go_ret
            exact ⟨ret_bool (filters_no _ _ _ HF.out.1 HO.out).symm, HBX.out⟩
          · have e1 := empty_false hne
            rw [decide_eq_false hne] at HE
            clear hne
            by_cases hn0 : f.n = 0
            · have b3 : (f.n != 0) = false := by simpa using hn0
              rw [decide_eq_true hn0] at HE
              clear hn0
              have HO := hid (show fltOk f = true by rw [HE.out]; rfl)
              go_wp2_with fail
              go_roundw
              case rel => exact ⟨k + 1, by go_num, by omega, filters_step _ _ _ HL.out HF.out.1 HO.out, HBX.out⟩
              case measure => simp [intOf]; omega
            · have b3 : (f.n != 0) = true := by simpa using hn0
              rw [decide_eq_false hn0] at HE
              clear hn0
              have HO := hid (show fltOk f = false by rw [HE.out]; rfl)
              go_wp2_with fail
              go_ret
              exact ⟨ret_bool (filters_no _ _ _ HF.out.1 HO.out).symm, HBX.out⟩
      have b0 : (f.k == 0) = false := by simpa using k0
      by_cases k2 : f.k = 2
      · have HE := hid (flt2 f k2)
        rw [HF.out.2] at HE
        have b2 : (f.k == 2) = true := by simpa using k2
        have V := hid (fun W => validWord_c s W (by unfold maxLen; omega))
        generalize wordOk s.data.toList = x at V HE
        clear k0 k2
        go_wp2_with fail
        refine (V.out _).mono ?_
        rintro e w1 ⟨rfl, rfl⟩
        cases x with
        | false =>
          have HO := hid (show fltOk f = false by rw [HE.out]; rfl)
          go_wp2_with fail
          go_ret
          exact ⟨ret_bool (filters_no _ _ _ HF.out.1 HO.out).symm, HBX.out⟩
        | true =>
          by_cases hn0 : f.n = 0
          · have b3 : (f.n != 0) = false := by simpa using hn0
            rw [decide_eq_true hn0] at HE
            clear hn0
            have HO := hid (show fltOk f = true by rw [HE.out]; rfl)
            go_wp2_with fail
            go_roundw
            case rel => exact ⟨k + 1, by go_num, by omega, filters_step _ _ _ HL.out HF.out.1 HO.out, HBX.out⟩
            case measure => simp [intOf]; omega
          · have b3 : (f.n != 0) = true := by simpa using hn0
            rw [decide_eq_false hn0] at HE
            clear hn0
            have HO := hid (show fltOk f = false by rw [HE.out]; rfl)
            go_wp2_with fail
            go_ret
            exact ⟨ret_bool (filters_no _ _ _ HF.out.1 HO.out).symm, HBX.out⟩
      have b2 : (f.k == 2) = false := by simpa using k2
      by_cases k13 : f.k = 1 ∨ f.k = 3
      · have HE := hid (flt13 f k13)
        rw [HF.out.2] at HE
        have hm : ∃ b1 b3 : Bool, (f.k == 1) = b1 ∧ (f.k == 3) = b3 ∧ (b1 || b3) = true := ⟨_, _, rfl, rfl, by simpa using k13⟩
        obtain ⟨b1, b3, h1, h3, h13⟩ := hm
        have V := hid (fun W => inRange_c f.n 1 60 W)
        generalize (decide (1 ≤ f.n) && decide (f.n ≤ 60)) = r at V HE
        clear k13 k0 k2
        by_cases hne : s.data.toList = []
        · have e1 : (!s.toList.isEmpty) = false := by rw [empty_true hne]; rfl
          have e2 := empty_true hne
          rw [decide_eq_true hne, Bool.true_and] at HE
          clear hne
          cases b1 with
          | true =>
            go_wp2_with fail
            refine (V.out _).mono ?_
            rintro e w1 ⟨rfl, rfl⟩
            cases r with
            | true =>
              have HO := hid (show fltOk f = true by rw [HE.out])
              go_wp2_with fail
              go_roundw
              case rel => exact ⟨k + 1, by go_num, by omega, filters_step _ _ _ HL.out HF.out.1 HO.out, HBX.out⟩
              case measure => simp [intOf]; omega
            | false =>
              have HO := hid (show fltOk f = false by rw [HE.out])
              go_wp2_with fail
              go_ret
              exact ⟨ret_bool (filters_no _ _ _ HF.out.1 HO.out).symm, HBX.out⟩
          | false =>
            cases b3 with
            | false => simp at h13
            | true =>
              go_wp2_with fail
              refine (V.out _).mono ?_
              rintro e w1 ⟨rfl, rfl⟩
              cases r with
              | true =>
                have HO := hid (show fltOk f = true by rw [HE.out])
                go_wp2_with fail
                go_roundw
                case rel => exact ⟨k + 1, by go_num, by omega, filters_step _ _ _ HL.out HF.out.1 HO.out, HBX.out⟩
                case measure => simp [intOf]; omega
              | false =>
                have HO := hid (show fltOk f = false by rw [HE.out])
                go_wp2_with fail
                go_ret
                exact ⟨ret_bool (filters_no _ _ _ HF.out.1 HO.out).symm, HBX.out⟩
        · have e1 : (!s.toList.isEmpty) = true := by rw [empty_false hne]; rfl
          have e2 := empty_false hne
          rw [decide_eq_false hne, Bool.false_and] at HE
          clear hne
          cases b1 with
          | true =>
            have HO := hid (show fltOk f = false by rw [HE.out])
            go_wp2_with fail
            go_ret
            exact ⟨ret_bool (filters_no _ _ _ HF.out.1 HO.out).symm, HBX.out⟩
          | false =>
            cases b3 with
            | false => simp at h13
            | true =>
              have HO := hid (show fltOk f = false by rw [HE.out])
              go_wp2_with fail
              go_ret
              exact ⟨ret_bool (filters_no _ _ _ HF.out.1 HO.out).symm, HBX.out⟩
      · have b1 : (f.k == 1) = false := by
          rw [beq_eq_false_iff_ne]; exact fun h => k13 (.inl h)
        have b3 : (f.k == 3) = false := by
          rw [beq_eq_false_iff_ne]; exact fun h => k13 (.inr h)
        have HE := hid (fltx f k0 k2 k13)
        clear k13 k0 k2
        have HO := hid (show fltOk f = false by exact HE.out)
        go_wp2_with fail
        go_ret
        exact ⟨ret_bool (filters_no _ _ _ HF.out.1 HO.out).symm, HBX.out⟩
    · have HE := hid (show filtersOk l = decide ((n : Int) ≤ 3) by
        have h1 := HL.out
        rw [List.take_of_length_le (by have := HV.out.2; omega)] at h1
        unfold filtersOk
        rw [h1, Bool.true_and]
        exact decide_eq_decide.2 (by have := HV.out.2; omega))
      go_wp2_with fail
      go_ret
      exact ⟨ret_bool HE.out.symm, HB.out⟩

end Go.Proofs.Ytlhelhfaogcibaa
