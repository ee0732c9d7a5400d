/-
  RECORDS: RecordsOf of the program, DropRepeats of both.
-/
import Derived.Test.YthgkkckbncgfmaaR3
namespace Go.Proofs.Ythgkkckbncgfmaa
open Go.RowKit Nm
set_option linter.unusedSimpArgs false
set_option linter.unusedVariables false

/-- is the record at k unlike the one ahead of it? -/
def fresh (l : List Rec) (k : Nat) (r : Rec) : Bool := k == 0 || !(match l[k - 1]? with | some p => alike p r | none => false)
def dropReps (l : List Rec) : List Rec := if recsOk l then rounds (pickIf l (fresh l)) l.length else []
theorem dropReps_len (l : List Rec) : (dropReps l).length ≤ 12 := by
  unfold dropReps
  split
  · rename_i h
    have h1 := rounds_len (pickIf l (fresh l)) (fun i => pickIf_len _ _ i) l.length
    unfold recsOk at h; simp only [Bool.and_eq_true, decide_eq_true_eq] at h
    omega
  · simp
theorem fresh_zero (l : List Rec) (r : Rec) : fresh l 0 r = true := rfl
theorem fresh_succ (l : List Rec) (k : Nat) (p r : Rec) (h : l[k]? = some p) : fresh l (k + 1) r = !alike p r := by unfold fresh; simp [h]
theorem alike_comm (x y : Rec) : alike x y = alike y x := by
  unfold alike; rw [Bool.eq_iff_iff]; simp only [Bool.and_eq_true, decide_eq_true_eq]; constructor <;> rintro ⟨a, b, c⟩ <;> exact ⟨a.symm, b.symm, c.symm⟩

set_option maxHeartbeats 4000000 in
set_option maxRecDepth 100000 in
theorem specDropRepeats_c (v : Value) (n B : Nat) (l : List Rec) (w : World) (hv : Rs w B n v l) (hB : B ≤ w.heap.size) (hn : n ≤ maxTxt) :
    Calls Try.prog 18 #[v] w (RowPost w 33 4 (dropReps l).length ((dropReps l).flatMap rcells)) := by
  have hln := hv.count
  obtain ⟨A, c, rfl, hnc, hcm⟩ := hv.1.form
  have C := hid (specValidRecords_c _ n B l w hv hB)
  unfold maxLen at hcm
  unfold maxTxt at hn
  have HV := hid (And.intro hv hln)
  clear hv hln
  cases hr : recsOk l with
  | false =>
    rw [hr] at C
    have HD := hid (show dropReps l = [] by unfold dropReps; rw [hr]; rfl)
    clear hr
    go_enter Try.func18, Try.ntmps18
    go_wp2_with (go_at_call 40; refine C.out.mono ?_; rintro e w1 ⟨rfl, hb⟩)
    go_ret
    exact ⟨_, rfl, by rw [HD.out]; exact World.ownsRow_nil _ _ _ _, hb⟩
  | true =>
  rw [hr] at C
  have HD := hid (show dropReps l = rounds (pickIf l (fresh l)) l.length by unfold dropReps; rw [hr]; rfl)
  clear hr
  go_enter Try.func18, Try.ntmps18
  go_wp2_with (go_at_call 40; refine C.out.mono ?_; rintro e w1 ⟨rfl, hb⟩; have HB1 := hid hb; clear hb)
  go_loopw [3, 4] (fun v iv wr => ∃ (k : Nat) (x : List Rec), iv = .int .i64 k ∧ k ≤ n ∧ Hid (x = rounds (pickIf l (fresh l)) k) ∧ x.length ≤ k ∧ wr.ownsRow w.heap.size 33 4 v x.length (x.flatMap rcells) ∧ Hid (Below w.heap.size w wr)) (fun _ iv _ => n - (intOf iv).toNat)
  case atStart => exact ⟨0, [], rfl, by omega, rfl, by simp, own_base (World.ownsRow_lit w1 #[] 0 (Nat.le_refl _) (by unfold maxLen; omega) rfl) HB1.out.size, HB1.out.alloc HB1.out.size _⟩
  case round =>
    obtain ⟨k, x, rfl, hk, HE, hx, hown, HB⟩ := hrel
    obtain ⟨Ax, cx, rfl, _, _⟩ := (Sl.of_own hown).form
    have HO := hid hown
    clear hown
    by_cases hlt : k < n
    · obtain ⟨b, o, nm, lv, tx, sq, rfl, hbB, hx1, c0, c1, c2, c3⟩ := rcells_at (HV.out.1.1.below HB.out hB) hlt
      have HX := hid hx1
      clear hx1
      have fin := hid (fun (hf : fresh l k ⟨nm.data.toList, lv, tx.data.toList, sq⟩ = true) => show x ++ [(⟨nm.data.toList, lv, tx.data.toList, sq⟩ : Rec)] = rounds (pickIf l (fresh l)) (k + 1) by
          rw [rounds_hit (pickIf_hit HX.out hf), HE.out])
      by_cases hk0 : k = 0
      · subst hk0
        have HS := hid (fin.out rfl)
        simp only [Nat.zero_mul, Nat.add_zero] at c0 c1 c2 c3
        go_wp2_with fail
        go_quiet (fail)
        go_wp2_with (at_builtin; refine appRecord _ rfl (.tmp 59) (.tmp 64) rfl w.heap.size _ x (by rfl) (own_dr HO.out _) nm lv tx sq _ _ _ (by rfl) (by simp) (by omega) (below_dr HB.out _).size ?_)
        intro v' w2 ho2 hb2
        have HO2 := hid (And.intro (own_snoc ho2) ((below_dr HB.out _).trans hb2))
        clear ho2 hb2
        go_wp2_with fail
        go_roundw
        case rel => exact ⟨1, _, by go_num, by omega, HS, by rw [List.length_append]; show x.length + 1 ≤ _; omega, HO2.out.1, HO2.out.2⟩
        case measure => simp [intOf]; omega
      · obtain ⟨j, rfl⟩ : ∃ j, k = j + 1 := ⟨k - 1, by omega⟩
        obtain ⟨b', o', pn, pl, pt, ps, he', _, hx2, p0, p1, p2, p3⟩ := rcells_at (HV.out.1.1.below HB.out hB) (show j < n by omega)
        obtain ⟨rfl, rfl⟩ : b = b' ∧ o = o' := by simpa using he'
        obtain ⟨a1, e1, f1⟩ := eq_bool nm pn
        obtain ⟨a2, e2, f2⟩ := eq_bool_i lv pl
        obtain ⟨a3, e3, f3⟩ := eq_bool tx pt
        have HF := hid (show fresh l (j + 1) ⟨nm.data.toList, lv, tx.data.toList, sq⟩ = !(a1 && (a2 && a3)) by rw [fresh_succ l j _ _ hx2]; unfold alike; rw [f1, f2, f3])
        have mis := hid (fun (hf : fresh l (j + 1) ⟨nm.data.toList, lv, tx.data.toList, sq⟩ = false) => show x = rounds (pickIf l (fresh l)) (j + 1 + 1) by
          rw [rounds_miss (pickIf_miss HX.out hf), HE.out])
        clear he' hx2 f1 f2 f3
        cases a1 <;> cases a2 <;> cases a3
        all_goals
          go_wp2_with fail
          go_quiet (fail)
          first
            | (go_wp2_with (at_builtin; refine appRecord _ rfl (.tmp 59) (.tmp 64) rfl w.heap.size _ x (by rfl) (own_dr HO.out _) nm lv tx sq _ _ _ (by rfl) (by simp) (by omega) (below_dr HB.out _).size ?_)
               intro v' w2 ho2 hb2
               have HO2 := hid (And.intro (own_snoc ho2) ((below_dr HB.out _).trans hb2))
               clear ho2 hb2
               go_wp2_with fail
               go_roundw
               case rel => exact ⟨j + 1 + 1, _, by go_num, by omega, fin.out HF.out, by rw [List.length_append]; show x.length + 1 ≤ _; omega, HO2.out.1, HO2.out.2⟩
               case measure => simp [intOf]; omega)
            | (go_wp2_with fail
               go_roundw
               case rel => exact ⟨j + 1 + 1, x, by go_num, by omega, mis.out HF.out, by omega, own_dr HO.out _, below_dr HB.out _⟩
               case measure => simp [intOf]; omega)
    · have HF := hid (show x = dropReps l by rw [HE.out, HD.out, show l.length = k by have := HV.out.2; omega])
      go_wp2_with fail
      go_ret
      exact ⟨_, rfl, by rw [← HF.out]; exact HO.out, HB.out⟩
end Go.Proofs.Ythgkkckbncgfmaa
