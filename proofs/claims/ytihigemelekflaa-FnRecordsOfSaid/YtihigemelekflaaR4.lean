/-
  RECORDS: RecordsOf of the program, DropRepeats of both.
-/
import Derived.Test.YtihigemelekflaaUM
namespace Go.Proofs.Ytihigemelekflaa
open Go.RowKit Nm
set_option linter.unusedSimpArgs false
set_option linter.unusedVariables false

set_option maxHeartbeats 2000000 in
set_option maxRecDepth 100000 in
theorem implRecordsOf_c (v : Value) (n B : Nat) (l : List Snt) (s : ByteArray) (w : World) (hv : Snts w B n v l) (hB : B ≤ w.heap.size) (hn : n ≤ maxTxt) :
    Calls Try.prog 5 #[v, .string s] w (RowPost w 32 4 (recsOf l s.data.toList).length ((recsOf l s.data.toList).flatMap rcells)) := by
  have hln := hv.count
  obtain ⟨A, c, rfl, hnc, hcm⟩ := hv.1.form
  unfold maxLen at hcm
  unfold maxTxt at hn
  have HV := hid (And.intro hv hln)
  clear hv hln
  go_enter Try.func5, Try.ntmps5
  go_wp2_with fail
  go_loopw [5, 10] (fun v iv wr => ∃ (k : Nat) (x : List Rec), iv = .int .i64 k ∧ k ≤ n ∧ Hid (x = (rounds (pickIf l fun _ y => decide (y.hd = s.data.toList)) k).map (·.rc)) ∧ x.length ≤ k ∧ wr.ownsRow w.heap.size 32 4 v x.length (x.flatMap rcells) ∧ Hid (Below w.heap.size w wr)) (fun _ iv _ => n - (intOf iv).toNat)
  case atStart => exact ⟨0, [], rfl, by omega, rfl, by simp, World.ownsRow_nil _ _ _ _, Below.refl _ _⟩
  case round =>
    obtain ⟨k, x, rfl, hk, HE, hx, hown, HB⟩ := hrel
    obtain ⟨Ax, cx, rfl, _, _⟩ := (Sl.of_own hown).form
    have HO := hid hown
    clear hown
    by_cases hlt : k < n
    · obtain ⟨b, o, lg, hd, nm, lv, tx, sq, rfl, hbB, hx1, c0, c1, c2, c3, c4, c5⟩ := sncells_at (HV.out.1.1.below HB.out hB) hlt
      have HX := hid hx1
      have HB0 := hid (HB.out.alloc HB.out.size (.cells #[.string lg, .string hd, .string nm, .int .i64 lv, .string tx, .int .i64 sq] 34))
      have HO0 := hid (HO.out.alloc (.cells #[.string lg, .string hd, .string nm, .int .i64 lv, .string tx, .int .i64 sq] 34))
      clear hx1
      by_cases he : hd.data.toList = s.data.toList
      · have e1 := eq_true_of he
        have HS := hid (show x ++ [(⟨nm.data.toList, lv, tx.data.toList, sq⟩ : Rec)] = (rounds (pickIf l fun _ y => decide (y.hd = s.data.toList)) (k + 1)).map (·.rc) by
          rw [rounds_hit (pickIf_hit HX.out (by simpa using he)), HE.out, List.map_append]; rfl)
        clear he
        go_wp2_with (at_builtin; refine appRecord _ rfl (.tmp 18) (.tmp 21) rfl w.heap.size _ x (by rfl) HO0.out nm lv tx sq _ _ _ (by rfl) (by simp) (by omega) HB0.out.size ?_)
        intro v' w2 ho2 hb2
        have HO2 := hid (And.intro (own_snoc ho2) (HB0.out.trans hb2))
        clear ho2 hb2
        go_wp2_with fail
        go_roundw
        case rel => exact ⟨k + 1, _, by go_num, by omega, HS, by rw [List.length_append]; show x.length + 1 ≤ _; omega, HO2.out.1, HO2.out.2⟩
        case measure => simp [intOf]; omega
      · have e1 := eq_false_of he
        have HS := hid (show x = (rounds (pickIf l fun _ y => decide (y.hd = s.data.toList)) (k + 1)).map (·.rc) by
          rw [rounds_miss (pickIf_miss HX.out (by simpa using he)), HE.out])
        clear he
        go_wp2_with fail
        go_roundw
        case rel => exact ⟨k + 1, x, by go_num, by omega, HS, by omega, HO0.out, HB0.out⟩
        case measure => simp [intOf]; omega
    · have HF := hid (show x = recsOf l s.data.toList by rw [HE.out]; unfold recsOf; rw [show l.length = k by have := HV.out.2; omega])
      go_wp2_with fail
      go_ret
      exact ⟨_, rfl, by rw [← HF.out]; exact HO.out, HB.out⟩

/-- is the record at k unlike the one ahead of it? -/
def fresh (l : List Rec) (k : Nat) (r : Rec) : Bool := k == 0 || !(match l[k - 1]? with | some p => alike p r | none => false)
def dropReps (l : List Rec) : List Rec := if recsOk l then rounds (pickIf l (fresh l)) l.length else []
theorem dropReps_len (l : List Rec) : (dropReps l).length ≤ 12 := by
  unfold dropReps
  split
  · rename_i h
    have h1 := rounds_len (pickIf l (fresh l)) (fun i => pickIf_len _ _ i) l.length
    unfold recsOk at h; simp only [Bool.and_eq_true, decide_eq_true_eq] at h
    omega
  · simp
theorem fresh_zero (l : List Rec) (r : Rec) : fresh l 0 r = true := rfl
theorem fresh_succ (l : List Rec) (k : Nat) (p r : Rec) (h : l[k]? = some p) : fresh l (k + 1) r = !alike p r := by unfold fresh; simp [h]
theorem alike_comm (x y : Rec) : alike x y = alike y x := by
  unfold alike; rw [Bool.eq_iff_iff]; simp only [Bool.and_eq_true, decide_eq_true_eq]; constructor <;> rintro ⟨a, b, c⟩ <;> exact ⟨a.symm, b.symm, c.symm⟩

end Go.Proofs.Ytihigemelekflaa
