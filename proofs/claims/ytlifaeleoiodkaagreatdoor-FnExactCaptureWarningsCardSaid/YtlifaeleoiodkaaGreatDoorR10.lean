/-
  RULES, WARNINGS: whether they are valid, by the program and by the model.
-/
import Derived.Test.YtlifaeleoiodkaaGreatDoorGRule
import Derived.Test.YtlifaeleoiodkaaGreatDoorGWarning
import Derived.Test.YtlifaeleoiodkaaGreatDoorUM
namespace Go.Proofs.YtlifaeleoiodkaaGreatDoor
open Go.RowKit Nm
set_option linter.unusedSimpArgs false
set_option linter.unusedVariables false

def wdOk (l : List UInt8) : Bool := decide (l = []) || wordOk l
def rulOk (x : Rul) : Bool := (decide (0 ≤ x.ac) && decide (x.ac ≤ 5)) && (nameOk x.md && ((decide (0 ≤ x.ln) && decide (x.ln ≤ 999)) && wdOk x.wd))
def rulsOk (l : List Rul) : Bool := l.all rulOk && decide (l.length ≤ 6)
def wrnOk (x : Wrn) : Bool := textOk x.tx && (nameOk x.md && (decide (1 ≤ x.ln) && decide (x.ln ≤ 999)))
def wrnsOk (l : List Wrn) : Bool := l.all wrnOk && decide (l.length ≤ 12)
theorem iWithin_c (a lo hi : Int) (w : World) :
    Calls Tryz.prog 100 #[.int .i64 a, .int .i64 lo, .int .i64 hi] w fun e w' => e = .returned (.bool (decide (lo ≤ a) && decide (a ≤ hi))) ∧ w = w' := by
  go_enter Tryz.func100, Tryz.ntmps100
  go_wp2_with fail
  all_goals go_ret
  all_goals exact ⟨ret_bool (by first | (simp_all; done) | (simp_all <;> intros <;> omega)), rfl⟩

set_option maxHeartbeats 1000000 in
set_option maxRecDepth 100000 in
theorem implValidRule_c (ac : Int) (wd md : ByteArray) (ln : Int) (w : World) (h1 : wd.size ≤ maxTxt) (h2 : md.size ≤ maxTxt) :
    Calls Tryz.prog 58 #[.agg #[.int .i64 ac, .string wd, .string md, .int .i64 ln]] w (BoolPost w (rulOk ⟨ac, wd.data.toList, md.data.toList, ln⟩)) := by
  unfold maxTxt at h1 h2
  have HB0 := hid (show Below w.heap.size w (w.alloc (.cells #[.int .i64 ac, .string wd, .string md, .int .i64 ln] 63)) from (Below.refl _ _).alloc (Nat.le_refl _) _)
  have HC := hid (Below.refl (w.alloc (.cells #[.int .i64 ac, .string wd, .string md, .int .i64 ln] 63)).heap.size (w.alloc (.cells #[.int .i64 ac, .string wd, .string md, .int .i64 ln] 63)))
  have C1 := hid (fun W => isWord_c wd W (by unfold maxLen; omega))
  have C2 := hid (fun W => implValidName_c md W (by unfold maxLen; omega))
  have C3 := hid (fun a lo hi W => iWithin_c a lo hi W)
  have HE := hid (show rulOk ⟨ac, wd.data.toList, md.data.toList, ln⟩ = (wdOk wd.data.toList && ((decide (0 ≤ ac) && decide (ac ≤ 5)) && (nameOk md.data.toList && (decide (0 ≤ ln) && decide (ln ≤ 999))))) by
    unfold rulOk
    cases wdOk wd.data.toList <;> cases nameOk md.data.toList <;> simp)
  by_cases hne : wd.data.toList = []
  · have e1 := empty_true hne
    have HW := hid (show wdOk wd.data.toList = true by unfold wdOk; rw [decide_eq_true hne]; rfl)
    clear hne C1
    generalize rulOk ⟨ac, wd.data.toList, md.data.toList, ln⟩ = z at HE ⊢
    generalize wdOk wd.data.toList = x at HE HW
    generalize nameOk md.data.toList = y at C2 HE
    go_enter Tryz.func58, Tryz.ntmps58
    go_wp2_with (first | (go_at_call 98; refine (C2.out _).mono ?_; rintro e w1 ⟨rfl, hb1⟩; replace HC := hid (HC.out.trans (hb1.mono HC.out.size)); clear hb1; have d3 := box_cell HC.out 3) | (go_at_call 100; refine (C3.out _ _ _ _).mono ?_; rintro e w2 ⟨rfl, rfl⟩))
    all_goals go_ret
    all_goals exact ⟨ret_bool (by rw [HE.out, HW.out]; simp_all; try (intros; omega)), HB0.out.trans (HC.out.mono (by simp))⟩
  · have e1 := empty_false hne
    have HW := hid (show wdOk wd.data.toList = wordOk wd.data.toList by unfold wdOk; rw [decide_eq_false hne]; rfl)
    clear hne
    generalize rulOk ⟨ac, wd.data.toList, md.data.toList, ln⟩ = z at HE ⊢
    generalize wdOk wd.data.toList = x at HE HW
    generalize nameOk md.data.toList = y at C2 HE
    generalize wordOk wd.data.toList = u at C1 HW
    go_enter Tryz.func58, Tryz.ntmps58
    go_wp2_with (first | (go_at_call 96; refine (C1.out _).mono ?_; rintro e w1 ⟨rfl, hb1⟩; replace HC := hid (HC.out.trans (hb1.mono HC.out.size)); clear hb1; have d0 := box_cell HC.out 0; have d2 := box_cell HC.out 2; have d3 := box_cell HC.out 3) | (go_at_call 98; refine (C2.out _).mono ?_; rintro e w1 ⟨rfl, hb1⟩; replace HC := hid (HC.out.trans (hb1.mono HC.out.size)); clear hb1; have d3 := box_cell HC.out 3) | (go_at_call 100; refine (C3.out _ _ _ _).mono ?_; rintro e w2 ⟨rfl, rfl⟩))
    all_goals go_ret
    all_goals exact ⟨ret_bool (by rw [HE.out, HW.out]; simp_all; try (intros; omega)), HB0.out.trans (HC.out.mono (by simp))⟩

set_option maxHeartbeats 1000000 in
set_option maxRecDepth 100000 in
theorem implValidWarning_c (tx md : ByteArray) (ln : Int) (w : World) (h1 : tx.size ≤ maxTxt) (h2 : md.size ≤ maxTxt) :
    Calls Tryz.prog 59 #[.agg #[.string tx, .string md, .int .i64 ln]] w (BoolPost w (wrnOk ⟨tx.data.toList, md.data.toList, ln⟩)) := by
  unfold maxTxt at h1 h2
  have HB0 := hid (show Below w.heap.size w (w.alloc (.cells #[.string tx, .string md, .int .i64 ln] 59)) from (Below.refl _ _).alloc (Nat.le_refl _) _)
  have HC := hid (Below.refl (w.alloc (.cells #[.string tx, .string md, .int .i64 ln] 59)).heap.size (w.alloc (.cells #[.string tx, .string md, .int .i64 ln] 59)))
  have C1 := hid (fun W => isText_c tx W (by unfold maxLen; omega))
  have C2 := hid (fun W => implValidName_c md W (by unfold maxLen; omega))
  have C3 := hid (fun a lo hi W => iWithin_c a lo hi W)
  have HE := hid (show wrnOk ⟨tx.data.toList, md.data.toList, ln⟩ = (textOk tx.data.toList && (nameOk md.data.toList && (decide (1 ≤ ln) && decide (ln ≤ 999)))) from rfl)
  generalize wrnOk ⟨tx.data.toList, md.data.toList, ln⟩ = z at HE ⊢
  generalize nameOk md.data.toList = y at C2 HE
  generalize textOk tx.data.toList = u at C1 HE
  go_enter Tryz.func59, Tryz.ntmps59
  go_wp2_with (first | (go_at_call 101; refine (C1.out _).mono ?_; rintro e w1 ⟨rfl, hb1⟩; replace HC := hid (HC.out.trans (hb1.mono HC.out.size)); clear hb1; have d1 := box_cell HC.out 1; have d2 := box_cell HC.out 2) | (go_at_call 98; refine (C2.out _).mono ?_; rintro e w1 ⟨rfl, hb1⟩; replace HC := hid (HC.out.trans (hb1.mono HC.out.size)); clear hb1; have d2 := box_cell HC.out 2) | (go_at_call 100; refine (C3.out _ _ _ _).mono ?_; rintro e w2 ⟨rfl, rfl⟩))
  all_goals go_ret
  all_goals exact ⟨ret_bool (by rw [HE.out]; simp_all; try (intros; omega)), HB0.out.trans (HC.out.mono (by simp))⟩

set_option maxHeartbeats 2000000 in
set_option maxRecDepth 100000 in
theorem implValidRules_c (v : Value) (n B : Nat) (l : List Rul) (w : World) (hv : Ruls w B n v l) (hB : B ≤ w.heap.size) :
    Calls Tryz.prog 25 #[v] w (BoolPost w (rulsOk l)) := by
  have hln := hv.count
  obtain ⟨A, c, rfl, hnc, hcm⟩ := hv.1.form
  unfold maxLen at hcm
  by_cases h12 : (6 : Int) < (n : Int)
  · have HE := hid (show rulsOk l = false by unfold rulsOk; rw [decide_eq_false (show ¬ l.length ≤ 6 by omega), Bool.and_false])
    clear hv hln
    go_enter Tryz.func25, Tryz.ntmps25
    go_wp2_with fail
    go_ret
    exact ⟨ret_bool HE.out.symm, Below.refl _ _⟩
  have HV := hid (And.intro hv hln)
  clear hv hln
  go_enter Tryz.func25, Tryz.ntmps25
  go_wp2_with fail
  go_loopw [10] (fun iv wr => ∃ k : Nat, iv = .int .i64 k ∧ k ≤ n ∧ Hid ((l.take k).all rulOk = true) ∧ Hid (Below w.heap.size w wr)) (fun iv _ => n - (intOf iv).toNat)
  case atStart => exact ⟨0, rfl, by omega, by simp [Hid], Below.refl _ _⟩
  case round =>
    obtain ⟨k, rfl, hk, HL, HB⟩ := hrel
    by_cases hlt : k < n
    · obtain ⟨b, o, ac, wd, md, ln, rfl, hbB, hx, c0, c1, c2, c3⟩ := rucells_at (HV.out.1.1.below HB.out hB) hlt
      have hfit := rucells_fit HV.out.1.2 hx
      have hcall := hid (fun W => implValidRule_c ac wd md ln W hfit.1 hfit.2)
      have HX := hid hx
      have HB0 := hid (HB.out.alloc HB.out.size (.cells #[.int .i64 ac, .string wd, .string md, .int .i64 ln] 63))
      clear hx hfit
      cases ho : rulOk ⟨ac, wd.data.toList, md.data.toList, ln⟩
      all_goals
        rw [ho] at hcall
        have HO := hid ho
        clear ho
        go_wp2_with (go_at_call 58; refine (hcall.out _).mono ?_; rintro e w1 ⟨rfl, hb⟩; replace HB0 := hid (HB0.out.trans (hb.mono HB0.out.size)); clear hb)
      · go_ret
        exact ⟨ret_bool (by unfold rulsOk; rw [all_bad _ l k _ HX.out HO.out]; rfl), HB0.out⟩
      · go_roundw
        case rel => exact ⟨k + 1, by go_num, by omega, take_all _ _ _ _ HL.out HX.out HO.out, HB0.out⟩
        case measure => simp [intOf]; omega
    · have HE := hid (show rulsOk l = true by
        have h1 := HL.out
        rw [List.take_of_length_le (by have := HV.out.2; omega)] at h1
        unfold rulsOk
        rw [h1, Bool.true_and]; exact decide_eq_true (by have := HV.out.2; omega))
      go_wp2_with fail
      go_ret
      exact ⟨ret_bool HE.out.symm, HB.out⟩

set_option maxHeartbeats 2000000 in
set_option maxRecDepth 100000 in
theorem implValidWarnings_c (v : Value) (n B : Nat) (l : List Wrn) (w : World) (hv : Wrns w B n v l) (hB : B ≤ w.heap.size) :
    Calls Tryz.prog 26 #[v] w (BoolPost w (wrnsOk l)) := by
  have hln := hv.count
  obtain ⟨A, c, rfl, hnc, hcm⟩ := hv.1.form
  unfold maxLen at hcm
  by_cases h12 : (12 : Int) < (n : Int)
  · have HE := hid (show wrnsOk l = false by unfold wrnsOk; rw [decide_eq_false (show ¬ l.length ≤ 12 by omega), Bool.and_false])
    clear hv hln
    go_enter Tryz.func26, Tryz.ntmps26
    go_wp2_with fail
    go_ret
    exact ⟨ret_bool HE.out.symm, Below.refl _ _⟩
  have HV := hid (And.intro hv hln)
  clear hv hln
  go_enter Tryz.func26, Tryz.ntmps26
  go_wp2_with fail
  go_loopw [10] (fun iv wr => ∃ k : Nat, iv = .int .i64 k ∧ k ≤ n ∧ Hid ((l.take k).all wrnOk = true) ∧ Hid (Below w.heap.size w wr)) (fun iv _ => n - (intOf iv).toNat)
  case atStart => exact ⟨0, rfl, by omega, by simp [Hid], Below.refl _ _⟩
  case round =>
    obtain ⟨k, rfl, hk, HL, HB⟩ := hrel
    by_cases hlt : k < n
    · obtain ⟨b, o, tx, md, ln, rfl, hbB, hx, c0, c1, c2⟩ := wncells_at (HV.out.1.1.below HB.out hB) hlt
      have hfit := wncells_fit HV.out.1.2 hx
      have hcall := hid (fun W => implValidWarning_c tx md ln W hfit.1 hfit.2)
      have HX := hid hx
      have HB0 := hid (HB.out.alloc HB.out.size (.cells #[.string tx, .string md, .int .i64 ln] 59))
      clear hx hfit
      cases ho : wrnOk ⟨tx.data.toList, md.data.toList, ln⟩
      all_goals
        rw [ho] at hcall
        have HO := hid ho
        clear ho
        go_wp2_with (go_at_call 59; refine (hcall.out _).mono ?_; rintro e w1 ⟨rfl, hb⟩; replace HB0 := hid (HB0.out.trans (hb.mono HB0.out.size)); clear hb)
      · go_ret
        exact ⟨ret_bool (by unfold wrnsOk; rw [all_bad _ l k _ HX.out HO.out]; rfl), HB0.out⟩
      · go_roundw
        case rel => exact ⟨k + 1, by go_num, by omega, take_all _ _ _ _ HL.out HX.out HO.out, HB0.out⟩
        case measure => simp [intOf]; omega
    · have HE := hid (show wrnsOk l = true by
        have h1 := HL.out
        rw [List.take_of_length_le (by have := HV.out.2; omega)] at h1
        unfold wrnsOk
        rw [h1, Bool.true_and]; exact decide_eq_true (by have := HV.out.2; omega))
      go_wp2_with fail
      go_ret
      exact ⟨ret_bool HE.out.symm, HB.out⟩

set_option maxHeartbeats 4000000 in
set_option maxRecDepth 100000 in
theorem specValidRules_c (v : Value) (n B : Nat) (l : List Rul) (w : World) (hv : Ruls w B n v l) (hB : B ≤ w.heap.size) :
    Calls Tryz.prog 33 #[v] w (BoolPost w (rulsOk l)) := by
  have hln := hv.count
  obtain ⟨A, c, rfl, hnc, hcm⟩ := hv.1.form
  unfold maxLen at hcm
  have HV := hid (And.intro hv hln)
  clear hv hln
  go_enter Tryz.func33, Tryz.ntmps33
  go_wp2_with fail
  go_loopw [3] (fun iv wr => ∃ k : Nat, iv = .int .i64 k ∧ k ≤ n ∧ Hid ((l.take k).all rulOk = true) ∧ Hid (Below w.heap.size w wr)) (fun iv _ => n - (intOf iv).toNat)
  case atStart => exact ⟨0, rfl, by omega, by simp [Hid], Below.refl _ _⟩
  case round =>
    obtain ⟨k, rfl, hk, HL, HB⟩ := hrel
    by_cases hlt : k < n
    · obtain ⟨b, o, ac, wd, md, ln, rfl, hbB, hx, c0, c1, c2, c3⟩ := rucells_at (HV.out.1.1.below HB.out hB) hlt
      have hfit := rucells_fit HV.out.1.2 hx
      have f1 := hfit.1
      have f2 := hfit.2
      unfold maxTxt at f1 f2
      have C1 := hid (fun W => validName_c md W (by omega))
      have C2 := hid (fun W => validWord_c wd W (by unfold maxLen; omega))
      obtain ⟨e1, he1⟩ : ∃ e1 : Bool, (wd.toList.isEmpty) = e1 ∧ decide (wd.data.toList = []) = e1 := by
        by_cases h : wd.data.toList = []
        · exact ⟨true, empty_true h, decide_eq_true h⟩
        · exact ⟨false, empty_false h, decide_eq_false h⟩
      have HX := hid hx
      have HB0 := hid (HB.out.alloc HB.out.size (.cells #[.int .i64 ac, .string wd, .string md, .int .i64 ln] 63))
      have HC := hid (Below.refl (wr.alloc (.cells #[.int .i64 ac, .string wd, .string md, .int .i64 ln] 63)).heap.size (wr.alloc (.cells #[.int .i64 ac, .string wd, .string md, .int .i64 ln] 63)))
      clear hx hfit
      have HE := hid (show rulOk ⟨ac, wd.data.toList, md.data.toList, ln⟩ = ((decide (0 ≤ ac) && decide (ac ≤ 5)) && (nameOk md.data.toList && ((decide (0 ≤ ln) && decide (ln ≤ 999)) && (e1 || wordOk wd.data.toList)))) by
        unfold rulOk wdOk; rw [he1.2])
      have hE := he1.1
      clear he1
      generalize nameOk md.data.toList = y at C1 HE
      generalize wordOk wd.data.toList = u at C2 HE
      go_wp2_with ((first | (go_at_call 66; refine (inRange_c _ _ _ _).mono ?_; rintro e w2 ⟨rfl, rfl⟩) | (go_at_call 68; refine (C1.out _).mono ?_; rintro e w1 ⟨rfl, hb1⟩; replace HC := hid (HC.out.trans (hb1.mono HC.out.size)); clear hb1; have d1 := box_cell HC.out 1; have d3 := box_cell HC.out 3) | (go_at_call 69; refine (C2.out _).mono ?_; rintro e w3 ⟨rfl, rfl⟩)))
      all_goals first
        | (go_ret
           exact ⟨ret_bool (by unfold rulsOk; rw [all_bad _ l k _ HX.out (by rw [HE.out]; simp_all; try (intros; omega))]; rfl), HB0.out.trans (HC.out.mono (by simp; have := HB0.out.size; try simp at this; try omega))⟩)
        | (go_roundw
           case rel => exact ⟨k + 1, by go_num, by omega, take_all _ _ _ _ HL.out HX.out (by rw [HE.out]; simp_all; try (intros; omega)), HB0.out.trans (HC.out.mono (by simp; have := HB0.out.size; try simp at this; try omega))⟩
           case measure => simp [intOf]; omega)
    · have HE := hid (show rulsOk l = decide ((n : Int) ≤ 6) by
        have h1 := HL.out
        rw [List.take_of_length_le (by have := HV.out.2; omega)] at h1
        unfold rulsOk
        rw [h1, Bool.true_and]; exact decide_eq_decide.2 (by have := HV.out.2; omega))
      go_wp2_with fail
      go_ret
      exact ⟨ret_bool HE.out.symm, HB.out⟩

set_option maxHeartbeats 4000000 in
set_option maxRecDepth 100000 in
theorem specValidWarnings_c (v : Value) (n B : Nat) (l : List Wrn) (w : World) (hv : Wrns w B n v l) (hB : B ≤ w.heap.size) :
    Calls Tryz.prog 34 #[v] w (BoolPost w (wrnsOk l)) := by
  have hln := hv.count
  obtain ⟨A, c, rfl, hnc, hcm⟩ := hv.1.form
  unfold maxLen at hcm
  have HV := hid (And.intro hv hln)
  clear hv hln
  go_enter Tryz.func34, Tryz.ntmps34
  go_wp2_with fail
  go_loopw [3] (fun iv wr => ∃ k : Nat, iv = .int .i64 k ∧ k ≤ n ∧ Hid ((l.take k).all wrnOk = true) ∧ Hid (Below w.heap.size w wr)) (fun iv _ => n - (intOf iv).toNat)
  case atStart => exact ⟨0, rfl, by omega, by simp [Hid], Below.refl _ _⟩
  case round =>
    obtain ⟨k, rfl, hk, HL, HB⟩ := hrel
    by_cases hlt : k < n
    · obtain ⟨b, o, tx, md, ln, rfl, hbB, hx, c0, c1, c2⟩ := wncells_at (HV.out.1.1.below HB.out hB) hlt
      have hfit := wncells_fit HV.out.1.2 hx
      have f1 := hfit.1
      have f2 := hfit.2
      unfold maxTxt at f1 f2
      have C1 := hid (fun W => validName_c md W (by omega))
      have C2 := hid (fun W => validText_c tx W (by unfold maxLen; omega))
      have HX := hid hx
      have HB0 := hid (HB.out.alloc HB.out.size (.cells #[.string tx, .string md, .int .i64 ln] 59))
      have HC := hid (Below.refl (wr.alloc (.cells #[.string tx, .string md, .int .i64 ln] 59)).heap.size (wr.alloc (.cells #[.string tx, .string md, .int .i64 ln] 59)))
      clear hx hfit
      have HE := hid (show wrnOk ⟨tx.data.toList, md.data.toList, ln⟩ = (textOk tx.data.toList && (nameOk md.data.toList && (decide (1 ≤ ln) && decide (ln ≤ 999)))) from rfl)
      generalize nameOk md.data.toList = y at C1 HE
      generalize textOk tx.data.toList = u at C2 HE
      go_wp2_with ((first | (go_at_call 66; refine (inRange_c _ _ _ _).mono ?_; rintro e w2 ⟨rfl, rfl⟩) | (go_at_call 68; refine (C1.out _).mono ?_; rintro e w1 ⟨rfl, hb1⟩; replace HC := hid (HC.out.trans (hb1.mono HC.out.size)); clear hb1; have d2 := box_cell HC.out 2) | (go_at_call 70; refine (C2.out _).mono ?_; rintro e w3 ⟨rfl, rfl⟩)))
      all_goals first
        | (go_ret
           exact ⟨ret_bool (by unfold wrnsOk; rw [all_bad _ l k _ HX.out (by rw [HE.out]; simp_all; try (intros; omega))]; rfl), HB0.out.trans (HC.out.mono (by simp; have := HB0.out.size; try simp at this; try omega))⟩)
        | (go_roundw
           case rel => exact ⟨k + 1, by go_num, by omega, take_all _ _ _ _ HL.out HX.out (by rw [HE.out]; simp_all; try (intros; omega)), HB0.out.trans (HC.out.mono (by simp; have := HB0.out.size; try simp at this; try omega))⟩
           case measure => simp [intOf]; omega)
    · have HE := hid (show wrnsOk l = decide ((n : Int) ≤ 12) by
        have h1 := HL.out
        rw [List.take_of_length_le (by have := HV.out.2; omega)] at h1
        unfold wrnsOk
        rw [h1, Bool.true_and]; exact decide_eq_decide.2 (by have := HV.out.2; omega))
      go_wp2_with fail
      go_ret
      exact ⟨ret_bool HE.out.symm, HB.out⟩

end Go.Proofs.YtlifaeleoiodkaaGreatDoor
