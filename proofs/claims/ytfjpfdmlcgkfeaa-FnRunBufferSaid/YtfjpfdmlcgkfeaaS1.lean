/-
  STORES: AtLeast of both.
-/
import Derived.Test.YtfjpfdmlcgkfeaaUM
namespace Go.Proofs.Ytfjpfdmlcgkfeaa
open Go.RowKit Nm
set_option linter.unusedSimpArgs false
set_option linter.unusedVariables false

/-- the records of at least a level -/
def atL (l : List Rec) (a : Int) : List Rec := rounds (pickIf l fun _ y => decide (a ≤ y.lv)) l.length
theorem atL_le (l : List Rec) (a : Int) : (atL l a).length ≤ l.length := rounds_len _ (fun i => pickIf_len _ _ i) _
def atLX (l : List Rec) (a : Int) : List Rec := if recsOk l then atL l a else []
theorem atLX_len (l : List Rec) (a : Int) : (atLX l a).length ≤ 12 := by
  unfold atLX
  split
  · rename_i h
    have h1 := atL_le l a
    unfold recsOk at h; simp only [Bool.and_eq_true, decide_eq_true_eq] at h
    omega
  · simp

set_option maxHeartbeats 2000000 in
set_option maxRecDepth 100000 in
theorem specAtLeast0_c (v : Value) (n B : Nat) (l : List Rec) (a : Int) (w : World) (hv : Rs w B n v l) (hB : B ≤ w.heap.size) (hn : n ≤ maxTxt) :
    Calls Try.prog 42 #[v, .int .i64 a] w (RowPost w 46 4 (atL l a).length ((atL l a).flatMap rcells)) := by
  have hln := hv.count
  obtain ⟨A, c, rfl, hnc, hcm⟩ := hv.1.form
  unfold maxLen at hcm
  unfold maxTxt at hn
  have HV := hid (And.intro hv hln)
  clear hv hln
  go_enter Try.func42, Try.ntmps42
  go_wp2_with fail
  go_loopw [5, 6] (fun v iv wr => ∃ (k : Nat) (x : List Rec), iv = .int .i64 k ∧ k ≤ n ∧ Hid (x = rounds (pickIf l fun _ y => decide (a ≤ y.lv)) k) ∧ x.length ≤ k ∧ wr.ownsRow w.heap.size 46 4 v x.length (x.flatMap rcells) ∧ Hid (Below w.heap.size w wr)) (fun _ iv _ => n - (intOf iv).toNat)
  case atStart => exact ⟨0, [], rfl, by omega, rfl, by simp, World.ownsRow_lit w #[] 0 (Nat.le_refl _) (by unfold maxLen; omega) rfl, (Below.refl _ _).alloc (Nat.le_refl _) _⟩
  case round =>
    obtain ⟨k, x, rfl, hk, HE, hx, hown, HB⟩ := hrel
    obtain ⟨Ax, cx, rfl, _, _⟩ := (Sl.of_own hown).form
    have HO := hid hown
    clear hown
    by_cases hlt : k < n
    · obtain ⟨b, o, nm, lv, tx, sq, rfl, hbB, hx1, c0, c1, c2, c3⟩ := rcells_at (HV.out.1.1.below HB.out hB) hlt
      have HX := hid hx1
      clear hx1
      have HB0 := HB
      have HO0 := HO
      by_cases he : a ≤ lv
      · have HS := hid (show x ++ [(⟨nm.data.toList, lv, tx.data.toList, sq⟩ : Rec)] = rounds (pickIf l fun _ y => decide (a ≤ y.lv)) (k + 1) by
          rw [rounds_hit (pickIf_hit HX.out (by simpa using he)), HE.out])
        go_wp2_with (at_builtin; refine appRecord _ rfl (.tmp 21) (.tmp 26) rfl w.heap.size _ x (by rfl) HO0.out nm lv tx sq _ _ _ (by rfl) (by simp) (by omega) HB0.out.size ?_)
        intro v' w2 ho2 hb2
        have HO2 := hid (And.intro (own_snoc ho2) (HB0.out.trans hb2))
        clear ho2 hb2
        go_wp2_with fail
        go_roundw
        case rel => exact ⟨k + 1, _, by go_num, by omega, HS, by rw [List.length_append]; show x.length + 1 ≤ _; omega, HO2.out.1, HO2.out.2⟩
        case measure => simp [intOf]; omega
      · have HS := hid (show x = rounds (pickIf l fun _ y => decide (a ≤ y.lv)) (k + 1) by
          rw [rounds_miss (pickIf_miss HX.out (by simpa using he)), HE.out])
        go_wp2_with fail
        go_roundw
        case rel => exact ⟨k + 1, x, by go_num, by omega, HS, by omega, HO0.out, HB0.out⟩
        case measure => simp [intOf]; omega
    · have HF := hid (show x = atL l a by rw [HE.out]; unfold atL; rw [show l.length = k by have := HV.out.2; omega])
      go_wp2_with fail
      go_ret
      exact ⟨_, rfl, by rw [← HF.out]; exact HO.out, HB.out⟩

set_option maxHeartbeats 4000000 in
set_option maxRecDepth 100000 in
theorem implAtLeast_c (v : Value) (n B : Nat) (l : List Rec) (a : Int) (w : World) (hv : Rs w B n v l) (hB : B ≤ w.heap.size) (hn : n ≤ maxTxt) :
    Calls Try.prog 40 #[v, .int .i64 a] w (RowPost w 46 4 (atLX l a).length ((atLX l a).flatMap rcells)) := by
  have hln := hv.count
  obtain ⟨A, c, rfl, hnc, hcm⟩ := hv.1.form
  unfold maxLen at hcm
  unfold maxTxt at hn
  have C := hid (implValidRecords_c _ n B l w hv hB)
  have HV := hid (And.intro hv hln)
  clear hv hln
  cases hr : recsOk l with
  | false =>
    rw [hr] at C
    have HD := hid (show atLX l a = [] by unfold atLX; rw [hr]; rfl)
    clear hr
    go_enter Try.func40, Try.ntmps40
    go_wp2_with (go_at_call 30; refine C.out.mono ?_; rintro e w1 ⟨rfl, hb⟩)
    go_ret
    exact ⟨_, rfl, by rw [HD.out]; exact World.ownsRow_nil _ _ _ _, hb⟩
  | true =>
  rw [hr] at C
  have HD := hid (show atLX l a = rounds (pickIf l fun _ y => decide (a ≤ y.lv)) l.length by unfold atLX; rw [hr]; rfl)
  clear hr
  go_enter Try.func40, Try.ntmps40
  go_wp2_with (go_at_call 30; refine C.out.mono ?_; rintro e w1 ⟨rfl, hb⟩; have HB1 := hid hb; clear hb)
  go_loopw [5, 13] (fun v iv wr => ∃ (k : Nat) (x : List Rec), iv = .int .i64 k ∧ k ≤ n ∧ Hid (x = rounds (pickIf l fun _ y => decide (a ≤ y.lv)) k) ∧ x.length ≤ k ∧ wr.ownsRow w.heap.size 46 4 v x.length (x.flatMap rcells) ∧ Hid (Below w.heap.size w wr)) (fun _ iv _ => n - (intOf iv).toNat)
  case atStart => exact ⟨0, [], rfl, by omega, rfl, by simp, World.ownsRow_nil _ _ _ _, HB1⟩
  case round =>
    obtain ⟨k, x, rfl, hk, HE, hx, hown, HB⟩ := hrel
    obtain ⟨Ax, cx, rfl, _, _⟩ := (Sl.of_own hown).form
    have HO := hid hown
    clear hown
    by_cases hlt : k < n
    · obtain ⟨b, o, nm, lv, tx, sq, rfl, hbB, hx1, c0, c1, c2, c3⟩ := rcells_at (HV.out.1.1.below HB.out hB) hlt
      have HX := hid hx1
      clear hx1
      have HB0 := hid (HB.out.alloc HB.out.size (.cells #[.string nm, .int .i64 lv, .string tx, .int .i64 sq] 46))
      have HO0 := hid (HO.out.alloc (.cells #[.string nm, .int .i64 lv, .string tx, .int .i64 sq] 46))
      by_cases he : a ≤ lv
      · have HS := hid (show x ++ [(⟨nm.data.toList, lv, tx.data.toList, sq⟩ : Rec)] = rounds (pickIf l fun _ y => decide (a ≤ y.lv)) (k + 1) by
          rw [rounds_hit (pickIf_hit HX.out (by simpa using he)), HE.out])
        go_wp2_with (at_builtin; refine appRecord _ rfl (.tmp 21) (.tmp 23) rfl w.heap.size _ x (by rfl) HO0.out nm lv tx sq _ _ _ (by rfl) (by simp) (by omega) HB0.out.size ?_)
        intro v' w2 ho2 hb2
        have HO2 := hid (And.intro (own_snoc ho2) (HB0.out.trans hb2))
        clear ho2 hb2
        go_wp2_with fail
        go_roundw
        case rel => exact ⟨k + 1, _, by go_num, by omega, HS, by rw [List.length_append]; show x.length + 1 ≤ _; omega, HO2.out.1, HO2.out.2⟩
        case measure => simp [intOf]; omega
      · have HS := hid (show x = rounds (pickIf l fun _ y => decide (a ≤ y.lv)) (k + 1) by
          rw [rounds_miss (pickIf_miss HX.out (by simpa using he)), HE.out])
        go_wp2_with fail
        go_roundw
        case rel => exact ⟨k + 1, x, by go_num, by omega, HS, by omega, HO0.out, HB0.out⟩
        case measure => simp [intOf]; omega
    · have HF := hid (show x = atLX l a by rw [HE.out, HD.out]; rw [show l.length = k by have := HV.out.2; omega])
      go_wp2_with fail
      go_ret
      exact ⟨_, rfl, by rw [← HF.out]; exact HO.out, HB.out⟩
end Go.Proofs.Ytfjpfdmlcgkfeaa
