/-
  FILES: lines, their sizes; SizeOf of both.
-/
import Derived.Test.YtoiagfdhanhnkaaKStrs
namespace Go.Proofs.Ytoiagfdhanhnkaa
open Go.RowKit Nm
set_option linter.unusedSimpArgs false
set_option linter.unusedVariables false

def lch (c : UInt8) : Bool := decide (32 ≤ c.toNat) && decide (c.toNat ≤ 126)
def lineOk (l : List UInt8) : Bool := l.all lch && decide (l.length ≤ 40)
def linesOk (l : TxtL) : Bool := l.all lineOk && decide (l.length ≤ 12)
def sizeL (l : TxtL) : Nat := total l + l.length
def sizeX (l : TxtL) : Int := if linesOk l then (sizeL l : Int) else -1

theorem lch_iff (c : UInt8) : lch c = true ↔ 32 ≤ c.toNat ∧ c.toNat ≤ 126 := by simp [lch]
theorem ln_bad (l : List UInt8) (k : Nat) (c : UInt8) (hc : l[k]? = some c) (h : lch c = false) : lineOk l = false := by
  cases hw : lineOk l with
  | false => rfl
  | true =>
    simp only [lineOk, Bool.and_eq_true, List.all_eq_true] at hw
    rw [hw.1 _ (List.mem_of_getElem? hc)] at h; cases h
theorem ln_long (l : List UInt8) (h : 40 < l.length) : lineOk l = false := by
  unfold lineOk; rw [decide_eq_false (by omega), Bool.and_false]
theorem ln_end (l : List UInt8) (h : l.all lch = true) : lineOk l = decide (l.length ≤ 40) := by
  unfold lineOk; rw [h, Bool.true_and]
theorem line_len {l : List UInt8} (h : lineOk l = true) : l.length ≤ 40 := by
  unfold lineOk at h; simp only [Bool.and_eq_true, decide_eq_true_eq] at h; exact h.2
theorem lines_len {l : TxtL} (h : linesOk l = true) : l.length ≤ 12 ∧ ∀ t ∈ l, t.length ≤ 40 := by
  unfold linesOk at h; simp only [Bool.and_eq_true, decide_eq_true_eq, List.all_eq_true] at h
  exact ⟨h.2, fun t ht => line_len (h.1 t ht)⟩
theorem total_le (l : TxtL) (m : Nat) (h : ∀ t ∈ l, t.length ≤ m) : total l ≤ m * l.length := by
  induction l with
  | nil => simp [total]
  | cons a r ih =>
    have h1 := ih fun t ht => h t (by simp [ht])
    have h2 := h a (by simp)
    have e1 : total (a :: r) = a.length + total r := by simp [total]
    have e2 : m * (a :: r).length = m * r.length + m := by rw [List.length_cons, Nat.mul_succ]
    omega
theorem size_small {l : TxtL} (h : linesOk l = true) : sizeL l ≤ 492 := by
  have h1 := lines_len h
  have h2 := total_le l 40 h1.2
  unfold sizeL
  have : 40 * l.length ≤ 480 := by omega
  omega
theorem sizeL_take (l : TxtL) (k : Nat) (x : List UInt8) (h : l[k]? = some x) : sizeL (l.take (k + 1)) = sizeL (l.take k) + x.length + 1 := by
  unfold sizeL total
  rw [List.take_add_one, h]
  simp
  omega

set_option maxHeartbeats 1000000 in
set_option maxRecDepth 100000 in
theorem validLine_c (s : ByteArray) (w : World) (hs : s.size ≤ maxLen) :
    Calls Try.prog 53 #[.string s] w fun e w' => e = .returned (.bool (lineOk s.data.toList)) ∧ w' = w := by
  unfold maxLen at hs
  go_enter Try.func53, Try.ntmps53
  go_wp2_with fail
  go_loop [3] (fun i => ∃ k : Nat, i = .int .i64 k ∧ k ≤ s.size ∧ Hid ((s.data.toList.take k).all lch = true)) (fun i => s.size - (intOf i).toNat)
  case atStart => exact ⟨0, rfl, by omega, by simp [Hid]⟩
  case round =>
    obtain ⟨k, rfl, hk, HL⟩ := hrel
    by_cases hlt : k < s.size
    · have hb : 0 ≤ ((s[k]'hlt).toNat : Int) ∧ ((s[k]'hlt).toNat : Int) < 256 := by have := (s[k]'hlt).toNat_lt; omega
      go_wp2_with fail
      all_goals first
        | (refine ⟨⟨k + 1, by go_num, by omega, ?_⟩, by simp [intOf]; omega⟩
           exact take_all _ _ k _ HL.out (byte_at s k hlt) ((lch_iff _).2 (by first | omega | (simp_all <;> omega))))
        | (go_ret
           refine ⟨ret_bool (Eq.symm (ln_bad _ k _ (byte_at s k hlt) ?_)), rfl⟩
           rw [Bool.eq_false_iff, Ne, lch_iff]; first | omega | (simp_all <;> omega))
    · have e : k = s.size := by omega
      subst e
      have HE := hid (show lineOk s.data.toList = decide ((s.size : Int) ≤ 40) by
        rw [ln_end _ (by have := HL.out; rwa [List.take_of_length_le (by rw [← Lib.size_eq]; exact Nat.le_refl _)] at this), ← Lib.size_eq]
        exact decide_eq_decide.2 (by omega))
      go_wp2_with fail
      go_ret
      exact ⟨ret_bool HE.out.symm, rfl⟩

theorem ln_go (s : ByteArray) (p : Nat) (h : p < s.size) (hl : (s.data.toList.take p).all lch = true) (h1 : (32 ≤ ((Utf8.decode s p).1 : Int) ∧ ((Utf8.decode s p).1 : Int) ≤ 126)) :
    (Utf8.decode s p).2 = 1 ∧ (s.data.toList.take (p + 1)).all lch = true := by
  obtain ⟨c, hc, ⟨_, hd⟩ | ⟨ha, hd⟩⟩ := dec_cases s p h
  · rw [hd] at h1 ⊢
    exact ⟨rfl, take_all _ _ p c hl hc ((lch_iff c).2 (by simp at h1; omega))⟩
  · omega
theorem ln_no (s : ByteArray) (p : Nat) (h : p < s.size) (h1 : ((Utf8.decode s p).1 : Int) < 32 ∨ 126 < ((Utf8.decode s p).1 : Int)) : lineOk s.data.toList = false := by
  obtain ⟨c, hc, ⟨_, hd⟩ | ⟨ha, hd⟩⟩ := dec_cases s p h
  · rw [hd] at h1
    refine ln_bad _ p c hc ?_
    rw [Bool.eq_false_iff, Ne, lch_iff]; simp at h1; omega
  · refine ln_bad _ p c hc ?_
    rw [Bool.eq_false_iff, Ne, lch_iff]; omega

set_option maxHeartbeats 1000000 in
set_option maxRecDepth 100000 in
theorem isLine_c (s : ByteArray) (w : World) (hs : s.size ≤ maxLen) :
    Calls Try.prog 55 #[.string s] w (BoolPost w (lineOk s.data.toList)) := by
  unfold maxLen at hs
  by_cases h12 : (40 : Int) < (s.size : Int)
  · have HE := hid (ln_long s.data.toList (by rw [← Lib.size_eq]; omega))
    go_enter Try.func55, Try.ntmps55
    go_wp2_with fail
    go_ret
    exact ⟨ret_bool HE.out.symm, Below.refl _ _⟩
  go_enter Try.func55, Try.ntmps55
  go_wp2_with fail
  go_loopw [4] (fun c wr => ∃ p : Nat, wr = w.iter s p ∧ p ≤ s.size ∧ Hid ((s.data.toList.take p).all lch = true)) (fun _ wr => s.size - wr.iterPos w.heap.size)
  case atStart => exact ⟨0, rfl, by omega, by simp [Hid]⟩
  case round =>
    obtain ⟨p, rfl, hp, HL⟩ := hrel
    by_cases hlt : p < s.size
    · have hnx : ∀ ty, (Instr.next (.pointer (some ⟨w.heap.size, 0, none⟩)) true ty).run Try.prog (w.iter s p) = _ := fun ty => run_next_any w s p ty hlt
      have hd := decode_le s p
      go_wp2_with fail
      all_goals first
        | (have hg := ln_go s p hlt HL.out (by first | omega | (simp_all <;> omega))
           refine ⟨⟨p + 1, by rw [hg.1], by omega, hg.2⟩, by rw [hg.1]; simp; omega⟩)
        | (go_ret
           exact ⟨ret_bool (ln_no s p hlt (by first | omega | (simp_all <;> omega))).symm, below_iter (Nat.le_refl _) _ _⟩)
    · have hnx : ∀ ty, (Instr.next (.pointer (some ⟨w.heap.size, 0, none⟩)) true ty).run Try.prog (w.iter s p) = _ := fun ty => run_next_end w s p ty hlt
      have HE := hid (show lineOk s.data.toList = true by
        rw [ln_end _ (by have := HL.out; rwa [List.take_of_length_le (by rw [← Lib.size_eq]; omega)] at this), ← Lib.size_eq]
        exact decide_eq_true (by omega))
      go_wp2_with fail
      go_ret
      exact ⟨ret_bool HE.out.symm, below_iter (Nat.le_refl _) _ _⟩

theorem StrsIn.text {w : World} {B n c : Nat} {A : Option Addr} {l : TxtL} (h : Sl w B 1 n (.slice A n c) (l.map txt)) {k : Nat} (hk : k < n) :
    ∃ b o p, A = some ⟨b, o, none⟩ ∧ b < B ∧ l[k]? = some p.data.toList ∧ w.cell? ⟨b, o + k, none⟩ = some (.string p) := h.text hk

set_option maxHeartbeats 2000000 in
set_option maxRecDepth 100000 in
theorem validLines_c {v : Value} {B : Nat} {l : TxtL} {w : World} (h : StrsIn w B v l) :
    Calls Try.prog 58 #[v] w fun e w' => e = .returned (.bool (linesOk l)) ∧ w' = w := by
  obtain ⟨hs, hf⟩ := h
  obtain ⟨A, c, rfl, hnc, hcm⟩ := hs.form
  have hl1 := hf.1
  unfold maxTxt at hl1
  generalize hn : l.length = n at *
  have HV := hid (And.intro hs (And.intro hf.2 hn))
  clear hs hf hn
  go_enter Try.func58, Try.ntmps58
  go_wp2_with fail
  go_loop [3] (fun i => ∃ k : Nat, i = .int .i64 k ∧ k ≤ n ∧ Hid ((l.take k).all lineOk = true)) (fun i => n - (intOf i).toNat)
  case atStart => exact ⟨0, rfl, by omega, by simp [Hid]⟩
  case round =>
    obtain ⟨k, rfl, hk, HL⟩ := hrel
    by_cases hlt : k < n
    · obtain ⟨b, o, p, rfl, hbB, hx, c0⟩ := HV.out.1.text hlt
      have hps : p.size ≤ maxLen := by have := HV.out.2.1 _ (List.mem_of_getElem? hx); rw [← Lib.size_eq] at this; unfold maxTxt at this; unfold maxLen; omega
      have C := hid (fun W => validLine_c p W hps)
      have HX := hid hx
      clear hx hps
      cases hz : lineOk p.data.toList with
      | false =>
        have HD := hid (show linesOk l = false by unfold linesOk; rw [Bool.and_eq_false_iff]; left; rw [Bool.eq_false_iff]; intro hn; rw [List.all_eq_true] at hn; rw [hn _ (List.mem_of_getElem? HX.out)] at hz; cases hz)
        rw [hz] at C
        clear hz
        go_wp2_with (go_at_call 53; refine (C.out _).mono ?_; rintro e w' ⟨rfl, rfl⟩)
        go_ret
        exact ⟨ret_bool HD.out.symm, rfl⟩
      | true =>
        have HS := hid (take_all lineOk l k _ HL.out HX.out hz)
        rw [hz] at C
        clear hz
        go_wp2_with (go_at_call 53; refine (C.out _).mono ?_; rintro e w' ⟨rfl, rfl⟩)
        exact ⟨⟨k + 1, by go_num, by omega, HS⟩, by simp [intOf]; omega⟩
    · have HE := hid (show linesOk l = decide ((n : Int) ≤ 12) by
        unfold linesOk
        have := HL.out
        rw [List.take_of_length_le (by have := HV.out.2.2; omega)] at this
        rw [this, Bool.true_and, HV.out.2.2]
        exact decide_eq_decide.2 (by omega))
      go_wp2_with fail
      go_ret
      exact ⟨ret_bool HE.out.symm, rfl⟩

set_option maxHeartbeats 2000000 in
set_option maxRecDepth 100000 in
theorem sizeOf_c {v : Value} {B : Nat} {l : TxtL} {w : World} (h : StrsIn w B v l) (hz : linesOk l = true) :
    Calls Try.prog 67 #[v] w fun e w' => e = .returned (.int .i64 (sizeL l : Int)) ∧ w' = w := by
  obtain ⟨hs, hf⟩ := h
  obtain ⟨A, c, rfl, hnc, hcm⟩ := hs.form
  have hl1 := (lines_len hz).1
  have HLn := hid (lines_len hz).2
  generalize hn : l.length = n at *
  have HV := hid (And.intro hs hn)
  clear hs hf hn hz
  go_enter Try.func67, Try.ntmps67
  go_wp2_with fail
  go_loop [3, 4] (fun s i => ∃ (k : Nat) (q : Int), i = .int .i64 k ∧ s = .int .i64 q ∧ k ≤ n ∧ 0 ≤ q ∧ q ≤ k * 41 ∧ Hid (q = (sizeL (l.take k) : Int))) (fun _ i => n - (intOf i).toNat)
  case atStart => exact ⟨0, 0, rfl, rfl, by omega, by omega, by omega, by simp [Hid, sizeL, total]⟩
  case round =>
    obtain ⟨k, q, rfl, rfl, hk, hq0, hq1, HQ⟩ := hrel
    by_cases hlt : k < n
    · obtain ⟨b, o, p, rfl, hbB, hx, c0⟩ := HV.out.1.text hlt
      have hps : (p.size : Int) ≤ 40 := by have := HLn.out _ (List.mem_of_getElem? hx); rw [← Lib.size_eq] at this; omega
      have HS := hid (show ((q + p.size + 1 : Int)) = (sizeL (l.take (k + 1)) : Int) by rw [sizeL_take l k _ hx, HQ.out, ← Lib.size_eq]; push_cast; rfl)
      have hp0 : (0 : Int) ≤ (p.size : Int) := by omega
      clear hx
      go_wp2_with fail
      exact ⟨⟨k + 1, _, by go_num, rfl, by omega, by omega, by push_cast; omega, HS⟩, by simp [intOf]; omega⟩
    · have HE := hid (show q = (sizeL l : Int) by rw [HQ.out, List.take_of_length_le (by have := HV.out.2; omega)])
      go_wp2_with fail
      go_ret
      exact ⟨ret_int HE.out, rfl⟩

set_option maxHeartbeats 2000000 in
set_option maxRecDepth 100000 in
theorem lineSize_c (s : ByteArray) (w : World) (hs : s.size ≤ 1048576) :
    Calls Try.prog 56 #[.string s] w fun e w' => e = .returned (.int .i64 ((s.size : Int) + 1)) ∧ w' = w := by
  have h0 : (s.size : Int) ≤ 1048576 := by omega
  have h1 : (0 : Int) ≤ (s.size : Int) := by omega
  go_enter Try.func56, Try.ntmps56
  go_wp2_with fail
  go_ret
  exact ⟨rfl, rfl⟩

set_option maxHeartbeats 2000000 in
set_option maxRecDepth 100000 in
theorem implSizeOf_c {v : Value} {B : Nat} {l : TxtL} {w : World} (h : StrsIn w B v l) (hB : B ≤ w.heap.size) :
    Calls Try.prog 42 #[v] w fun e w' => e = .returned (.int .i64 (sizeX l)) ∧ Below w.heap.size w w' := by
  obtain ⟨hs, hf⟩ := h
  obtain ⟨A, c, rfl, hnc, hcm⟩ := hs.form
  have hl1 := hf.1
  unfold maxTxt at hl1
  have HX := hid (show sizeX l = if linesOk l then (sizeL l : Int) else -1 from rfl)
  generalize sizeX l = X at *
  generalize hn : l.length = n at *
  have HV := hid (And.intro hs (And.intro hf.2 hn))
  clear hs hf hn
  by_cases h12 : (12 : Int) < (n : Int)
  · have HD := hid (show X = -1 by rw [HX.out]; have : linesOk l = false := by { unfold linesOk; rw [Bool.and_eq_false_iff]; right; rw [decide_eq_false_iff_not]; have := HV.out.2.2; omega }; rw [this]; rfl)
    go_enter Try.func42, Try.ntmps42
    go_wp2_with fail
    go_ret
    exact ⟨ret_int HD.out.symm, Below.refl _ _⟩
  go_enter Try.func42, Try.ntmps42
  go_wp2_with fail
  go_loopw [3, 5, 11] (fun s x i wr => ∃ (k : Nat) (q : Int), i = .int .i64 k ∧ s = .int .i64 q ∧ k ≤ n ∧ 0 ≤ q ∧ q ≤ k * 41 ∧ Hid (q = (sizeL (l.take k) : Int)) ∧ Hid ((l.take k).all lineOk = true) ∧ Hid (Below w.heap.size w wr)) (fun _ _ i _ => n - (intOf i).toNat)
  case atStart => exact ⟨0, 0, rfl, rfl, by omega, by omega, by omega, by simp [Hid, sizeL, total], by simp [Hid], Below.refl _ _⟩
  case round =>
    obtain ⟨k, q, rfl, rfl, hk, hq0, hq1, HQ, HL, HB⟩ := hrel
    by_cases hlt : k < n
    · obtain ⟨b, o, p, rfl, hbB, hx, c0⟩ := (HV.out.1.below HB.out hB).text hlt
      have hps : p.size ≤ 1048576 := by have := HV.out.2.1 _ (List.mem_of_getElem? hx); rw [← Lib.size_eq] at this; exact this
      have C := hid (fun W => isLine_c p W (by unfold maxLen; omega))
      have C3 := hid (fun W => lineSize_c p W hps)
      have HX2 := hid hx
      cases hz : lineOk p.data.toList with
      | false =>
        have HD := hid (show X = -1 by
          rw [HX.out]
          have : linesOk l = false := by unfold linesOk; rw [Bool.and_eq_false_iff]; left; rw [Bool.eq_false_iff]; intro hn; rw [List.all_eq_true] at hn; rw [hn _ (List.mem_of_getElem? HX2.out)] at hz; cases hz
          rw [this]; rfl)
        rw [hz] at C
        clear hz hx
        go_wp2_with (go_at_call 55; refine (C.out _).mono ?_; rintro e w' ⟨rfl, hb⟩; replace HB := hid (HB.out.trans (hb.mono HB.out.size)); clear hb)
        go_ret
        exact ⟨ret_int HD.out.symm, HB.out⟩
      | true =>
        have HS := hid (take_all lineOk l k _ HL.out HX2.out hz)
        have hp4 : (p.size : Int) ≤ 40 := by have := line_len hz; rw [← Lib.size_eq] at this; omega
        have HT := hid (show ((q + (p.size + 1) : Int)) = (sizeL (l.take (k + 1)) : Int) by rw [sizeL_take l k _ hx, HQ.out, ← Lib.size_eq]; push_cast; omega)
        have hp0 : (0 : Int) ≤ (p.size : Int) := by omega
        rw [hz] at C
        clear hz hx
        go_wp2_with (first | (go_at_call 55; refine (C.out _).mono ?_; rintro e w' ⟨rfl, hb⟩; replace HB := hid (HB.out.trans (hb.mono HB.out.size)); clear hb) | (go_at_call 56; refine (C3.out _).mono ?_; rintro e w' ⟨rfl, rfl⟩))
        go_roundw
        case rel => exact ⟨k + 1, _, by go_num, rfl, by omega, by omega, by push_cast; omega, HT, HS, HB⟩
        case measure => simp [intOf]; omega
    · have HE := hid (show q = X by
        rw [HX.out]
        have h1 := HL.out
        rw [List.take_of_length_le (by have := HV.out.2.2; omega)] at h1
        have : linesOk l = true := by unfold linesOk; rw [h1, Bool.true_and, decide_eq_true_eq]; have := HV.out.2.2; omega
        rw [this, if_pos rfl, HQ.out, List.take_of_length_le (by have := HV.out.2.2; omega)])
      go_wp2_with fail
      go_ret
      exact ⟨ret_int HE.out, HB.out⟩
end Go.Proofs.Ytoiagfdhanhnkaa
