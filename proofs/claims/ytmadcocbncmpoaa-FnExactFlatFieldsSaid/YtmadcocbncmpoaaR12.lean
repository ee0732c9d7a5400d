/-
  FIELDS: whether they are valid, by the model.
-/
import Derived.Test.YtmadcocbncmpoaaR11
import Derived.Deep.QuietTactic
import Derived.BigQuiet
namespace Go.Proofs.Ytmadcocbncmpoaa
open Go.RowKit Nm
set_option linter.unusedSimpArgs false
set_option linter.unusedVariables false

set_option maxHeartbeats 1000000 in
set_option maxRecDepth 100000 in
theorem fieldAt_c (v : Value) (n B : Nat) (l : List Fld) (s : ByteArray) (w : World) (hv : Flds w B n v l) :
    Calls Try.prog 23 #[v, .string s] w fun e w' => e = .returned (.int .i64 (idxL (keysOf l) s.data.toList)) ∧ w' = w := by
  have hln := hv.count
  obtain ⟨A, c, rfl, hnc, hcm⟩ := hv.1.form
  unfold maxLen at hcm
  have HV := hid (And.intro hv hln)
  clear hv hln
  go_enter Try.func23, Try.ntmps23
  go_wp2_with fail
  go_loop [5] (fun iv => ∃ k : Nat, iv = .int .i64 k ∧ k ≤ n ∧ Hid (s.data.toList ∉ (keysOf l).take k)) (fun iv => n - (intOf iv).toNat)
  case atStart => exact ⟨0, rfl, by omega, by simp [Hid]⟩
  case round =>
    obtain ⟨k, rfl, hk, HN⟩ := hrel
    by_cases hlt : k < n
    · obtain ⟨b, o, ky, vl, rfl, hbB, hx, c0, c1⟩ := fdcells_at HV.out.1.1 hlt
      have HX := hid (keysOf_at hx)
      clear hx
      by_cases he : ky.data.toList = s.data.toList
      · have e1 := eq_true_of he
        have HE := hid (show idxL (keysOf l) s.data.toList = (k : Int) from idx_hit _ _ _ (by rw [← he]; exact HX.out) HN.out)
        clear he
        go_wp2_with fail
        go_ret
        exact ⟨ret_int HE.out.symm, rfl⟩
      · have e1 := eq_false_of he
        have HE := hid (not_take_succ _ _ _ _ HN.out HX.out he)
        clear he
        go_wp2_with fail
        refine ⟨⟨k + 1, by go_num, by omega, HE⟩, by simp [intOf]; omega⟩
    · have HE := hid (show idxL (keysOf l) s.data.toList = -1 from idx_miss _ _ (by have := HN.out; rwa [List.take_of_length_le (by unfold keysOf; rw [List.length_map]; have := HV.out.2; omega)] at this))
      go_wp2_with fail
      go_ret
      exact ⟨ret_int HE.out.symm, rfl⟩
theorem idx_take {ns : List (List UInt8)} {x : List UInt8} {k : Nat} : decide (0 ≤ idxL (ns.take k) x) = decide (x ∈ ns.take k) := by
  refine decide_eq_decide.2 ⟨fun h => ?_, fun h => ?_⟩
  · apply Classical.byContradiction; intro hn; rw [idx_miss _ _ hn] at h; omega
  · unfold idxL; rw [if_pos h]; omega
theorem keysOf_take (l : List Fld) (k : Nat) : keysOf (l.take k) = (keysOf l).take k := by unfold keysOf; rw [List.map_take]

def WB (s : ByteArray) (b : Bool) : Prop := wordOk s.data.toList = b ∧ s.size ≤ 1048576
theorem validWordB {s : ByteArray} {b : Bool} (h : WB s b) (W : World) : Calls Try.prog 28 #[.string s] W fun e w' => e = .returned (.bool b) ∧ w' = W := by
  have h9 := validWord_c s W (by have := h.2; unfold maxLen; omega)
  rw [h.1] at h9
  exact h9

set_option maxHeartbeats 4000000 in
set_option maxRecDepth 100000 in
theorem specValidFields_c (v : Value) (n B : Nat) (l : List Fld) (w : World) (hv : Flds w B n v l) (hB : B ≤ w.heap.size) :
    Calls Try.prog 22 #[v] w (BoolPost w (fldsOk l)) := by
  have hln := hv.count
  obtain ⟨A, c, rfl, hnc, hcm⟩ := hv.1.form
  unfold maxLen at hcm
  have CK := hid (fun (k : Nat) (hk : k ≤ n) (s : ByteArray) (W : World) (hW : Below w.heap.size w W) => fieldAt_c (.slice A k c) k B (l.take k) s W ⟨by rw [← flat_takeK fdcells 2 fdcells_len]; exact (hv.1.below hW hB).cutK hk, fun x hx => hv.2 x (List.mem_of_mem_take hx)⟩)
  have HV := hid (And.intro hv hln)
  clear hv hln
  go_enter Try.func22, Try.ntmps22
  go_wp2_with fail
  go_loopw [3] (fun iv wr => ∃ k : Nat, iv = .int .i64 k ∧ k ≤ n ∧ Hid (allAt (fitem l) k = true) ∧ Hid (Below w.heap.size w wr)) (fun iv _ => n - (intOf iv).toNat)
  case atStart => exact ⟨0, rfl, by omega, rfl, Below.refl _ _⟩
  case round =>
    obtain ⟨k, rfl, hk, HL, HB⟩ := hrel
    by_cases hlt : k < n
    · obtain ⟨b, o, ky, vl, rfl, hbB, hx, c0, c1⟩ := fdcells_at (HV.out.1.1.below HB.out hB) hlt
      have hfit := fdcells_fit HV.out.1.2 hx
      have f1 := hfit.1
      have f2 := hfit.2
      unfold maxTxt at f1 f2
      have W1 : WB ky (wordOk ky.data.toList) := ⟨rfl, f1⟩
      have W2 : WB vl (wordOk vl.data.toList) := ⟨rfl, f2⟩
      have CKy := hid (fun (d : Nat) => CK.out k hk ky (wr.drewN d) (below_dr HB.out d))
      have HI := hid (show fitem l k = (wordOk ky.data.toList && (wordOk vl.data.toList && !decide (0 ≤ idxL (keysOf (l.take k)) ky.data.toList))) by rw [fitem_eq hx, keysOf_take, idx_take])
      have HKn := hid (show k < l.length by rw [HV.out.2]; exact hlt)
      have s0 : (0 : Int) ≤ (k : Int) := by omega
      have s1 : (k : Int) < (n : Int) := by omega
      have s2 : ((k : Int)).toNat = k := by simp
      have s3 : (k : Int) ≤ (c : Int) := by omega
      clear hx hfit CK
      generalize wordOk ky.data.toList = a at W1 HI
      generalize wordOk vl.data.toList = a' at W2 HI
      generalize idxL (keysOf (l.take k)) ky.data.toList = z at CKy HI
      generalize hI : fitem l k = it at HI
      have HF := hid hI
      clear hI
      cases a with
      | false =>
        have HZ := hid (show it = false from HI.out)
        clear CKy W2
        go_wp2_with fail
        go_quiet ((go_at_call 28; exact Calls.quiet_of_same (validWordB (by assumption) _)))
        go_wp2_with fail
        go_ret
        exact ⟨ret_bool (by unfold fldsOk; rw [allAt_bad HKn.out (by rw [HF.out, HZ.out])]; rfl), below_dr HB.out _⟩
      | true =>
        cases a' with
        | false =>
          have HZ := hid (show it = false from HI.out)
          clear CKy
          go_wp2_with fail
          go_quiet ((go_at_call 28; exact Calls.quiet_of_same (validWordB (by assumption) _)))
          go_wp2_with fail
          go_ret
          exact ⟨ret_bool (by unfold fldsOk; rw [allAt_bad HKn.out (by rw [HF.out, HZ.out])]; rfl), below_dr HB.out _⟩
        | true =>
          by_cases hz : (0 : Int) ≤ z
          · have HZ := hid (show it = false by rw [HI.out, decide_eq_true hz]; rfl)
            go_wp2_with fail
            go_quiet ((first | (go_at_call 28; exact Calls.quiet_of_same (validWordB (by assumption) _)) | (go_at_call 23; exact Calls.quiet_of_same (CKy.out _))))
            go_wp2_with fail
            go_ret
            exact ⟨ret_bool (by unfold fldsOk; rw [allAt_bad HKn.out (by rw [HF.out, HZ.out])]; rfl), below_dr HB.out _⟩
          · have HZ := hid (show it = true by rw [HI.out, decide_eq_false hz]; rfl)
            go_wp2_with fail
            go_quiet ((first | (go_at_call 28; exact Calls.quiet_of_same (validWordB (by assumption) _)) | (go_at_call 23; exact Calls.quiet_of_same (CKy.out _))))
            go_wp2_with fail
            go_roundw
            case rel => exact ⟨k + 1, by go_num, by omega, allAt_next HL.out (by rw [HF.out, HZ.out]), below_dr HB.out _⟩
            case measure => simp [intOf]; omega
    · have HE := hid (show fldsOk l = decide ((n : Int) ≤ 5) by
        have h1 := HL.out
        rw [show k = l.length by have := HV.out.2; omega] at h1
        unfold fldsOk
        rw [h1, Bool.true_and]; exact decide_eq_decide.2 (by have := HV.out.2; omega))
      go_wp2_with fail
      go_ret
      exact ⟨ret_bool HE.out.symm, HB.out⟩

end Go.Proofs.Ytmadcocbncmpoaa
