/-
  RECORDS: validRecords, ValidRecords, RecordsOf of both.
-/
import Derived.Test.YteekkccgdkmjoaaGreatGSent
namespace Go.Proofs.YteekkccgdkmjoaaGreat
open Go.RowKit Nm
set_option linter.unusedSimpArgs false
set_option linter.unusedVariables false

theorem own_snoc {α : Type} {f : α → List Value} {w : World} {base d : Nat} {T : TypeId} {v : Value} {l : List α} {x : α} (h : w.ownsRow base T d v (l.length + 1) (l.flatMap f ++ f x)) :
    w.ownsRow base T d v (l ++ [x]).length ((l ++ [x]).flatMap f) := by simpa using h
theorem bounded {B n : Nat} (h : n ≤ B) (hB : B ≤ 1048576) : n + 1 ≤ maxLen ∧ (n + 1) * 128 ≤ 140737488355328 := by unfold maxLen; omega
theorem all_bad {α : Type} (f : α → Bool) (l : List α) (k : Nat) (x : α) (hx : l[k]? = some x) (h : f x = false) : l.all f = false := by
  rw [Bool.eq_false_iff]; intro hn
  rw [List.all_eq_true] at hn
  rw [hn x (List.mem_of_getElem? hx)] at h; cases h

set_option maxHeartbeats 1000000 in
set_option maxRecDepth 100000 in
theorem specValidRecord_c (nm tx : ByteArray) (lv sq : Int) (w : World) (h1 : nm.size ≤ maxTxt) (h2 : tx.size ≤ maxTxt) :
    Calls Tryz.prog 31 #[.agg #[.string nm, .int .i64 lv, .string tx, .int .i64 sq]] w (BoolPost w (recOk ⟨nm.data.toList, lv, tx.data.toList, sq⟩)) := by
  unfold maxTxt at h1 h2
  have C1 := hid (fun W => validName_c nm W h1)
  have C3 := hid (fun W => validText_c tx W (by unfold maxLen; omega))
  have HE := hid (show recOk ⟨nm.data.toList, lv, tx.data.toList, sq⟩ = (nameOk nm.data.toList && ((decide (1 ≤ lv) && decide (lv ≤ 60)) && (textOk tx.data.toList && (decide (0 ≤ sq) && decide (sq ≤ 999))))) by
    unfold recOk; rw [Bool.and_assoc (decide (1 ≤ lv))])
  have HB0 := hid (show Below w.heap.size w (w.alloc (.cells #[.string nm, .int .i64 lv, .string tx, .int .i64 sq] 37)) from (Below.refl _ _).alloc (Nat.le_refl _) _)
  have HC := hid (Below.refl (w.alloc (.cells #[.string nm, .int .i64 lv, .string tx, .int .i64 sq] 37)).heap.size (w.alloc (.cells #[.string nm, .int .i64 lv, .string tx, .int .i64 sq] 37)))
  generalize recOk ⟨nm.data.toList, lv, tx.data.toList, sq⟩ = z at HE ⊢
  generalize nameOk nm.data.toList = a at C1 HE
  generalize textOk tx.data.toList = c at C3 HE
  go_enter Tryz.func31, Tryz.ntmps31
  go_wp2_with (first | (go_at_call 53; refine (C1.out _).mono ?_; rintro e w1 ⟨rfl, hb1⟩; replace HC := hid (HC.out.trans (hb1.mono HC.out.size)); clear hb1; have d1 := box_cell HC.out 1; have d2 := box_cell HC.out 2; have d3 := box_cell HC.out 3) | (go_at_call 51; refine (inRange_c _ _ _ _).mono ?_; rintro e w2 ⟨rfl, rfl⟩) | (go_at_call 54; refine (C3.out _).mono ?_; rintro e w3 ⟨rfl, rfl⟩))
  all_goals go_ret
  all_goals exact ⟨ret_bool (by rw [HE.out]; simp_all; try (intros; omega)), HB0.out.trans (HC.out.mono (by simp))⟩

set_option maxHeartbeats 2000000 in
set_option maxRecDepth 100000 in
theorem specValidRecords_c (v : Value) (n B : Nat) (l : List Rec) (w : World) (hv : Rs w B n v l) (hB : B ≤ w.heap.size) :
    Calls Tryz.prog 44 #[v] w (BoolPost w (recsOk l)) := by
  have hln := hv.count
  obtain ⟨A, c, rfl, hnc, hcm⟩ := hv.1.form
  unfold maxLen at hcm
  have HV := hid (And.intro hv hln)
  clear hv hln
  go_enter Tryz.func44, Tryz.ntmps44
  go_wp2_with fail
  go_loopw [3] (fun iv wr => ∃ k : Nat, iv = .int .i64 k ∧ k ≤ n ∧ Hid ((l.take k).all recOk = true) ∧ Hid (Below w.heap.size w wr)) (fun iv _ => n - (intOf iv).toNat)
  case atStart => exact ⟨0, rfl, by omega, by simp [Hid], Below.refl _ _⟩
  case round =>
    obtain ⟨k, rfl, hk, HL, HB⟩ := hrel
    by_cases hlt : k < n
    · obtain ⟨b, o, nm, lv, tx, sq, rfl, hbB, hx, c0, c1, c2, c3⟩ := rcells_at (HV.out.1.1.below HB.out hB) hlt
      have hfit := rcells_fit HV.out.1.2 hx
      have hcall := hid (fun W => specValidRecord_c nm tx lv sq W hfit.1 hfit.2)
      have HX := hid hx
      clear hx hfit
      cases ho : recOk ⟨nm.data.toList, lv, tx.data.toList, sq⟩
      all_goals
        rw [ho] at hcall
        have HO := hid ho
        clear ho
        go_wp2_with (go_at_call 31; refine (hcall.out _).mono ?_; rintro e w1 ⟨rfl, hb⟩; replace HB := hid (HB.out.trans (hb.mono HB.out.size)); clear hb)
      · go_ret
        exact ⟨ret_bool (by unfold recsOk; rw [all_bad _ l k _ HX.out HO.out]; rfl), HB.out⟩
      · go_roundw
        case rel => exact ⟨k + 1, by go_num, by omega, take_all _ _ _ _ HL.out HX.out HO.out, HB.out⟩
        case measure => simp [intOf]; omega
    · have HE := hid (show recsOk l = decide ((n : Int) ≤ 12) by
        have h1 := HL.out
        rw [List.take_of_length_le (by have := HV.out.2; omega)] at h1
        unfold recsOk
        rw [h1, Bool.true_and]; exact decide_eq_decide.2 (by have := HV.out.2; omega))
      go_wp2_with fail
      go_ret
      exact ⟨ret_bool HE.out.symm, HB.out⟩
end Go.Proofs.YteekkccgdkmjoaaGreat
