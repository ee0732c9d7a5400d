/-
  R2, R3, U0, U1, U2 laid together.
-/
import Derived.Test.YtioegkcekbkblaaGreatZxGM
import Derived.Deep.QuietTactic
import Derived.BigQuiet
import Derived.Deep.RegionHeld3
import Derived.Test.YtioegkcekbkblaaGreatZxLookS
/-
  RECORDS: validRecords, ValidRecords, RecordsOf of both.
-/
namespace Go.Proofs.YtioegkcekbkblaaGreat
open Go.RowKit Nm
set_option linter.unusedSimpArgs false
set_option linter.unusedVariables false

theorem all_bad {α : Type} (f : α → Bool) (l : List α) (k : Nat) (x : α) (hx : l[k]? = some x) (h : f x = false) : l.all f = false := by
  rw [Bool.eq_false_iff]; intro hn
  rw [List.all_eq_true] at hn
  rw [hn x (List.mem_of_getElem? hx)] at h; cases h

set_option maxHeartbeats 1000000 in
set_option maxRecDepth 100000 in
theorem specValidRecord_c (nm tx : ByteArray) (lv sq : Int) (w : World) (h1 : nm.size ≤ maxTxt) (h2 : tx.size ≤ maxTxt) :
    Calls Tryz.prog 45 #[.agg #[.string nm, .int .i64 lv, .string tx, .int .i64 sq]] w (BoolPost w (recOk ⟨nm.data.toList, lv, tx.data.toList, sq⟩)) := by
  unfold maxTxt at h1 h2
  have C1 := hid (fun W => validName_c nm W h1)
  have C3 := hid (fun W => validText_c tx W (by unfold maxLen; omega))
  have HE := hid (show recOk ⟨nm.data.toList, lv, tx.data.toList, sq⟩ = (nameOk nm.data.toList && ((decide (1 ≤ lv) && decide (lv ≤ 60)) && (textOk tx.data.toList && (decide (0 ≤ sq) && decide (sq ≤ 999))))) by
    unfold recOk; rw [Bool.and_assoc (decide (1 ≤ lv))])
  have HB0 := hid (show Below w.heap.size w (w.alloc (.cells #[.string nm, .int .i64 lv, .string tx, .int .i64 sq] 28)) from (Below.refl _ _).alloc (Nat.le_refl _) _)
  have HC := hid (Below.refl (w.alloc (.cells #[.string nm, .int .i64 lv, .string tx, .int .i64 sq] 28)).heap.size (w.alloc (.cells #[.string nm, .int .i64 lv, .string tx, .int .i64 sq] 28)))
  generalize recOk ⟨nm.data.toList, lv, tx.data.toList, sq⟩ = z at HE ⊢
  generalize nameOk nm.data.toList = a at C1 HE
  generalize textOk tx.data.toList = c at C3 HE
  go_enter Tryz.func45, Tryz.ntmps45
  go_wp2_with (first | (go_at_call 92; refine (C1.out _).mono ?_; rintro e w1 ⟨rfl, hb1⟩; replace HC := hid (HC.out.trans (hb1.mono HC.out.size)); clear hb1; have d1 := box_cell HC.out 1; have d2 := box_cell HC.out 2; have d3 := box_cell HC.out 3) | (go_at_call 90; refine (inRange_c _ _ _ _).mono ?_; rintro e w2 ⟨rfl, rfl⟩) | (go_at_call 93; refine (C3.out _).mono ?_; rintro e w3 ⟨rfl, rfl⟩))
  all_goals go_ret
  all_goals exact ⟨ret_bool (by rw [HE.out]; simp_all; try (intros; omega)), HB0.out.trans (HC.out.mono (by simp))⟩

end Go.Proofs.YtioegkcekbkblaaGreat

/-
  RECORDS: ValidRecords, RecordsOf, DropRepeats of both.
-/
namespace Go.Proofs.YtioegkcekbkblaaGreat
open Go.RowKit Nm
set_option linter.unusedSimpArgs false
set_option linter.unusedVariables false

set_option maxHeartbeats 2000000 in
set_option maxRecDepth 100000 in
theorem implValidRecords_c (v : Value) (n B : Nat) (l : List Rec) (w : World) (hv : Rs w B n v l) (hB : B ≤ w.heap.size) :
    Calls Tryz.prog 16 #[v] w (BoolPost w (recsOk l)) := by
  have hln := hv.count
  obtain ⟨A, c, rfl, hnc, hcm⟩ := hv.1.form
  unfold maxLen at hcm
  by_cases h12 : (12 : Int) < (n : Int)
  · have HE := hid (show recsOk l = false by unfold recsOk; rw [decide_eq_false (show ¬ l.length ≤ 12 by omega), Bool.and_false])
    clear hv hln
    go_enter Tryz.func16, Tryz.ntmps16
    go_wp2_with fail
    go_ret
    exact ⟨ret_bool HE.out.symm, Below.refl _ _⟩
  have HV := hid (And.intro hv hln)
  clear hv hln
  go_enter Tryz.func16, Tryz.ntmps16
  go_wp2_with fail
  go_loopw [10] (fun iv wr => ∃ k : Nat, iv = .int .i64 k ∧ k ≤ n ∧ Hid ((l.take k).all recOk = true) ∧ Hid (Below w.heap.size w wr)) (fun iv _ => n - (intOf iv).toNat)
  case atStart => exact ⟨0, rfl, by omega, by simp [Hid], Below.refl _ _⟩
  case round =>
    obtain ⟨k, rfl, hk, HL, HB⟩ := hrel
    by_cases hlt : k < n
    · obtain ⟨b, o, nm, lv, tx, sq, rfl, hbB, hx, c0, c1, c2, c3⟩ := rcells_at (HV.out.1.1.below HB.out hB) hlt
      have hfit := rcells_fit HV.out.1.2 hx
      have hcall := hid (fun W => implValidRecord_c nm tx lv sq W hfit.1 hfit.2)
      have HX := hid hx
      have HB0 := hid (HB.out.alloc HB.out.size (.cells #[.string nm, .int .i64 lv, .string tx, .int .i64 sq] 28))
      clear hx hfit
      cases ho : recOk ⟨nm.data.toList, lv, tx.data.toList, sq⟩
      all_goals
        rw [ho] at hcall
        have HO := hid ho
        clear ho
        go_wp2_with (go_at_call 50; refine (hcall.out _).mono ?_; rintro e w1 ⟨rfl, hb⟩; replace HB0 := hid (HB0.out.trans (hb.mono HB0.out.size)); clear hb)
      · go_ret
        exact ⟨ret_bool (by unfold recsOk; rw [all_bad _ l k _ HX.out HO.out]; rfl), HB0.out⟩
      · go_roundw
        case rel => exact ⟨k + 1, by go_num, by omega, take_all _ _ _ _ HL.out HX.out HO.out, HB0.out⟩
        case measure => simp [intOf]; omega
    · have HE := hid (show recsOk l = true by
        have h1 := HL.out
        rw [List.take_of_length_le (by have := HV.out.2; omega)] at h1
        unfold recsOk
        rw [h1, Bool.true_and]; exact decide_eq_true (by have := HV.out.2; omega))
      go_wp2_with fail
      go_ret
      exact ⟨ret_bool HE.out.symm, HB.out⟩

end Go.Proofs.YtioegkcekbkblaaGreat

/-
  USERS: the loggers that have a handler, the handlers that have users; plain.
-/
namespace Go.Proofs.YtioegkcekbkblaaGreat
open Go.RowKit Nm
set_option linter.unusedSimpArgs false
set_option linter.unusedVariables false

end Go.Proofs.YtioegkcekbkblaaGreat

/-
  WALKS: UsersOf, UsedHandlers of both; the library's Index and Contains over texts.
-/
namespace Go.Proofs.YtioegkcekbkblaaGreat
open Go.RowKit Nm
set_option linter.unusedSimpArgs false
set_option linter.unusedVariables false

set_option maxHeartbeats 1000000 in
set_option maxRecDepth 100000 in
theorem indexTxt_c (v : Value) (n B : Nat) (l : List (List UInt8)) (s : ByteArray) (w : World) (hv : Txts w B n v l) :
    Calls Tryz.prog 120 #[v, .string s] w fun e w' => e = .returned (.int .i64 (idxL l s.data.toList)) ∧ w = w' := by
  have hln := hv.count
  obtain ⟨A, c, rfl, hnc, hcm⟩ := hv.1.form
  unfold maxLen at hcm
  have HV := hid (And.intro hv hln)
  clear hv hln
  go_enter Tryz.func120, Tryz.ntmps120
  go_wp2_with fail
  go_loop [8] (fun iv => ∃ k : Nat, iv = .int .i64 k ∧ k ≤ n ∧ Hid (s.data.toList ∉ l.take k)) (fun iv => n - (intOf iv).toNat)
  case atStart => exact ⟨0, rfl, by omega, by simp [Hid]⟩
  case round =>
    obtain ⟨k, rfl, hk, HN⟩ := hrel
    by_cases hlt : k < n
    · obtain ⟨b, o, t, rfl, hb, hxn, _, g0⟩ := HV.out.1.text hlt
      have HX := hid hxn
      clear hxn
      have s0 : (0 : Int) ≤ (k : Int) := by omega
      have s1 : (k : Int) < (n : Int) := by omega
      have s2 : ((k : Int)).toNat = k := by simp
      by_cases he : s.data.toList = t.data.toList
      · have e1 := eq_true_of he
        have HE := hid (show idxL l s.data.toList = (k : Int) from idx_hit _ _ _ (by rw [he]; exact HX.out) HN.out)
        clear he
        go_wp2_with fail
        go_ret
        exact ⟨ret_int HE.out.symm, rfl⟩
      · have e1 := eq_false_of he
        have HE := hid (not_take_succ _ _ _ _ HN.out HX.out (fun e => he e.symm))
        clear he
        go_wp2_with fail
        refine ⟨⟨k + 1, by go_num, by omega, HE⟩, by simp [intOf]; omega⟩
    · have HE := hid (show idxL l s.data.toList = -1 from idx_miss _ _ (by have := HN.out; rwa [List.take_of_length_le (by have := HV.out.2; omega)] at this))
      go_wp2_with fail
      go_ret
      exact ⟨ret_int HE.out.symm, rfl⟩
theorem idx_ge (l : List (List UInt8)) (x : List UInt8) : decide (0 ≤ idxL l x) = decide (x ∈ l) := by
  refine decide_eq_decide.2 ⟨fun h => ?_, fun h => ?_⟩
  · apply Classical.byContradiction; intro hn; rw [idx_miss _ _ hn] at h; omega
  · unfold idxL; rw [if_pos h]; omega
set_option maxHeartbeats 400000 in
set_option maxRecDepth 100000 in
theorem containsTxt_c (v : Value) (n B : Nat) (l : List (List UInt8)) (s : ByteArray) (w : World) (hv : Txts w B n v l) :
    Calls Tryz.prog 74 #[v, .string s] w fun e w' => e = .returned (.bool (decide (s.data.toList ∈ l))) ∧ w = w' := by
  have C := hid (indexTxt_c v n B l s w hv)
  obtain ⟨A, c, rfl, hnc, hcm⟩ := hv.1.form
  have HE := hid (idx_ge l s.data.toList)
  generalize decide (s.data.toList ∈ l) = z at HE ⊢
  generalize idxL l s.data.toList = x at C HE
  clear hv
  go_enter Tryz.func74, Tryz.ntmps74
  go_wp2_with fail
  refine C.out.mono ?_
  rintro e w1 ⟨rfl, rfl⟩
  go_wp2_with fail
  go_ret
  exact ⟨ret_bool HE.out, rfl⟩

end Go.Proofs.YtioegkcekbkblaaGreat

/-
  WALKS: UsedHandlers of both.
-/
namespace Go.Proofs.YtioegkcekbkblaaGreat
open Go.RowKit Nm
set_option linter.unusedSimpArgs false
set_option linter.unusedVariables false

theorem TreeIn.hands {w : World} {B n1 k1 n2 k2 : Nat} {A1 A2 : Option Addr} {L : List Lgr} {H : List Hnd} {q : Int} (h : TreeIn w B (.agg #[.slice A1 n1 k1, .slice A2 n2 k2, .int .i64 q]) L H q) :
    ∃ hs, Hs w B n2 (.slice A2 n2 k2) hs ∧ hsOf hs = H := by
  obtain ⟨ls, hs, ⟨A1', n1', k1', A2', n2', k2', e, _, h1, _⟩, h2, h3⟩ := h
  simp at e
  obtain ⟨⟨rfl, rfl, rfl⟩, ⟨rfl, rfl, rfl⟩⟩ := e
  exact ⟨hs, h1, h3⟩
/-- handler k: its cells -/
theorem handler_at {w : World} {B n k2 : Nat} {A : Option Addr} {hs : List HndV} {H : List Hnd} (hh : Hs w B n (.slice A n k2) hs) (hH : hsOf hs = H) {k : Nat} (hk : k < n) :
    ∃ (b o : Nat) (p : ByteArray) (h : Hnd) (A4 : Option Addr) (fn k4 : Nat), A = some ⟨b, o, none⟩ ∧ b < B ∧ H[k]? = some h ∧ p.data.toList = h.nm ∧ p.size ≤ maxTxt ∧ Fs w B fn (.slice A4 fn k4) h.fs ∧
      w.cell? ⟨b, o + k * 3, none⟩ = some (.string p) ∧ w.cell? ⟨b, o + k * 3 + 1, none⟩ = some (.int .i64 h.lv) ∧ w.cell? ⟨b, o + k * 3 + 2, none⟩ = some (.slice A4 fn k4) := by
  obtain ⟨b, o, x, s, e, hb, hx, hs', hz, hf, c0, c1, c2⟩ := hh.at_ hk
  obtain ⟨A4, k4, e4, _, _⟩ := hf.1.form
  rw [e4] at hf c2
  exact ⟨b, o, s, x.h, A4, x.fn, k4, e, hb, by rw [← hH]; unfold hsOf; rw [List.getElem?_map, hx]; rfl, hs', hz, hf, c0, c1, c2⟩

end Go.Proofs.YtioegkcekbkblaaGreat
