/-
  RECORDS: DropRepeats of the program.
-/
import Derived.Test.YthgkkckbncgfmaaR4
import Derived.IntWalk
namespace Go.Proofs.Ythgkkckbncgfmaa
open Go.RowKit Nm
set_option linter.unusedSimpArgs false
set_option linter.unusedVariables false

set_option maxHeartbeats 4000000 in
set_option maxRecDepth 100000 in
theorem implDropRepeats_c (v : Value) (n B : Nat) (l : List Rec) (w : World) (hv : Rs w B n v l) (hB : B ≤ w.heap.size) (hn : n ≤ maxTxt) :
    Calls Try.prog 17 #[v] w (RowPost w 33 4 (dropReps l).length ((dropReps l).flatMap rcells)) := by
  have hln := hv.count
  obtain ⟨A, c, rfl, hnc, hcm⟩ := hv.1.form
  have C := hid (implValidRecords_c _ n B l w hv hB)
  unfold maxLen at hcm
  unfold maxTxt at hn
  have HV := hid (And.intro hv hln)
  clear hv hln
  cases hr : recsOk l with
  | false =>
    rw [hr] at C
    have HD := hid (show dropReps l = [] by unfold dropReps; rw [hr]; rfl)
    clear hr
    go_enter Try.func17, Try.ntmps17
    go_wp2_with (go_at_call 15; refine C.out.mono ?_; rintro e w1 ⟨rfl, hb⟩)
    go_ret
    exact ⟨_, rfl, by rw [HD.out]; exact World.ownsRow_nil _ _ _ _, hb⟩
  | true =>
  rw [hr] at C
  have HD := hid (show dropReps l = rounds (pickIf l (fresh l)) l.length by unfold dropReps; rw [hr]; rfl)
  clear hr
  go_enter Try.func17, Try.ntmps17
  go_wp2_with (go_at_call 15; refine C.out.mono ?_; rintro e w1 ⟨rfl, hb⟩; have HB1 := hid hb; clear hb)
  go_loopw [3, 11] (fun v iv wr => ∃ (k : Nat) (x : List Rec), iv = .int .i64 k ∧ k ≤ n ∧ Hid (x = rounds (pickIf l (fresh l)) k) ∧ x.length ≤ k ∧ wr.ownsRow w.heap.size 33 4 v x.length (x.flatMap rcells) ∧ Hid (Below w.heap.size w wr)) (fun _ iv _ => n - (intOf iv).toNat)
  case atStart => exact ⟨0, [], rfl, by omega, rfl, by simp, World.ownsRow_nil _ _ _ _, HB1⟩
  case round =>
    obtain ⟨k, x, rfl, hk, HE, hx, hown, HB⟩ := hrel
    obtain ⟨Ax, cx, rfl, _, _⟩ := (Sl.of_own hown).form
    have HO := hid hown
    clear hown
    by_cases hlt : k < n
    · obtain ⟨b, o, nm, lv, tx, sq, rfl, hbB, hx1, c0, c1, c2, c3⟩ := rcells_at (HV.out.1.1.below HB.out hB) hlt
      have HX := hid hx1
      have HB0 := hid (HB.out.alloc HB.out.size (.cells #[.string nm, .int .i64 lv, .string tx, .int .i64 sq] 33))
      have HO0 := hid (HO.out.alloc (.cells #[.string nm, .int .i64 lv, .string tx, .int .i64 sq] 33))
      clear hx1
      have fin := hid (fun (hf : fresh l k ⟨nm.data.toList, lv, tx.data.toList, sq⟩ = true) => show x ++ [(⟨nm.data.toList, lv, tx.data.toList, sq⟩ : Rec)] = rounds (pickIf l (fresh l)) (k + 1) by
          rw [rounds_hit (pickIf_hit HX.out hf), HE.out])
      by_cases hk0 : k = 0
      · subst hk0
        have HS := hid (fin.out rfl)
        simp only [Nat.zero_mul, Nat.add_zero] at c0 c1 c2 c3
        go_wp2_with fail
        go_quiet (fail)
        go_wp2_with (at_builtin; refine appRecord _ rfl (.tmp 28) (.tmp 30) rfl w.heap.size _ x (by rfl) (own_dr HO0.out _) nm lv tx sq _ _ _ (by rfl) (by simp) (by omega) (below_dr HB0.out _).size ?_)
        intro v' w2 ho2 hb2
        have HO2 := hid (And.intro (own_snoc ho2) ((below_dr HB0.out _).trans hb2))
        clear ho2 hb2
        go_wp2_with fail
        go_roundw
        case rel => exact ⟨1, _, by go_num, by omega, HS, by rw [List.length_append]; show x.length + 1 ≤ _; omega, HO2.out.1, HO2.out.2⟩
        case measure => simp [intOf]; omega
      · obtain ⟨j, rfl⟩ : ∃ j, k = j + 1 := ⟨k - 1, by omega⟩
        obtain ⟨b', o', pn, pl, pt, ps, he', _, hx2, p0, p1, p2, p3⟩ := rcells_at (HV.out.1.1.below HB0.out hB) (show j < n by omega)
        obtain ⟨rfl, rfl⟩ : b = b' ∧ o = o' := by simpa using he'
        have CR := hid (fun W => isRepeat_c pn pt nm tx pl ps lv sq W)
        have HF := hid (fresh_succ l j _ ⟨nm.data.toList, lv, tx.data.toList, sq⟩ hx2)
        generalize alike ⟨pn.data.toList, pl, pt.data.toList, ps⟩ ⟨nm.data.toList, lv, tx.data.toList, sq⟩ = z at CR HF
        have mis := hid (fun (hf : fresh l (j + 1) ⟨nm.data.toList, lv, tx.data.toList, sq⟩ = false) => show x = rounds (pickIf l (fresh l)) (j + 1 + 1) by
          rw [rounds_miss (pickIf_miss HX.out hf), HE.out])
        clear he' hx2
        have q0 : (wr.alloc (.cells #[.string nm, .int .i64 lv, .string tx, .int .i64 sq] 33)).cell? ⟨wr.heap.size, 0, none⟩ = some (.string nm) := cell_of_row _ _ _ _ _ _ (heap_alloc_new wr _)
        have q1 : (wr.alloc (.cells #[.string nm, .int .i64 lv, .string tx, .int .i64 sq] 33)).cell? ⟨wr.heap.size, 1, none⟩ = some (.int .i64 lv) := cell_of_row _ _ _ _ _ _ (heap_alloc_new wr _)
        have q2 : (wr.alloc (.cells #[.string nm, .int .i64 lv, .string tx, .int .i64 sq] 33)).cell? ⟨wr.heap.size, 2, none⟩ = some (.string tx) := cell_of_row _ _ _ _ _ _ (heap_alloc_new wr _)
        have q3 : (wr.alloc (.cells #[.string nm, .int .i64 lv, .string tx, .int .i64 sq] 33)).cell? ⟨wr.heap.size, 3, none⟩ = some (.int .i64 sq) := cell_of_row _ _ _ _ _ _ (heap_alloc_new wr _)
        have hw : IntKind.i64.wrap ((j : Int)) = j := IntWalk.i64_in _ (by omega)
        have bz : ((j : Int) + 1 == 0) = false := by rw [beq_eq_false_iff_ne]; omega
        have i0 : (0 : Int) ≤ (j : Int) := by omega
        have i1 : (j : Int) < (n : Int) := by omega
        have i2 : ((j : Int)).toNat = j := by simp
        have i3 : j < n := by omega
        have hbr : b < wr.heap.size := by have := HB.out.size; omega
        go_wp2_with fail
        go_region_held3 (fun w' => w'.cell? ⟨b, o + j * 4, none⟩ = some (.string pn) ∧ w'.cell? ⟨b, o + j * 4 + 1, none⟩ = some (.int .i64 pl) ∧ w'.cell? ⟨b, o + j * 4 + 2, none⟩ = some (.string pt) ∧ w'.cell? ⟨b, o + j * 4 + 3, none⟩ = some (.int .i64 ps) ∧ w'.cell? ⟨wr.heap.size, 0, none⟩ = some (.string nm) ∧ w'.cell? ⟨wr.heap.size, 1, none⟩ = some (.int .i64 lv) ∧ w'.cell? ⟨wr.heap.size, 2, none⟩ = some (.string tx) ∧ w'.cell? ⟨wr.heap.size, 3, none⟩ = some (.int .i64 sq)) (first | go_keep | exact ⟨(hb9.cell (p := ⟨b, _, none⟩) (by simp; omega)).trans p0, (hb9.cell (p := ⟨b, _, none⟩) (by simp; omega)).trans p1, (hb9.cell (p := ⟨b, _, none⟩) (by simp; omega)).trans p2, (hb9.cell (p := ⟨b, _, none⟩) (by simp; omega)).trans p3, (hb9.cell (p := ⟨wr.heap.size, 0, none⟩) (by simp)).trans q0, (hb9.cell (p := ⟨wr.heap.size, 1, none⟩) (by simp)).trans q1, (hb9.cell (p := ⟨wr.heap.size, 2, none⟩) (by simp)).trans q2, (hb9.cell (p := ⟨wr.heap.size, 3, none⟩) (by simp)).trans q3⟩) (first | (go_at_call 43; refine (CR.out _).mono ?_; rintro e w9 ⟨rfl, hb9⟩))
        all_goals have HB9 := hid (by first | exact HB0.out.trans (hb9.mono HB0.out.size) | exact HB0.out.drew.trans (hb9.mono HB0.out.drew.size) : Below w.heap.size w w9)
        all_goals have HO9 := hid (by first | exact own_below HO0.out hb9 | exact own_below HO0.out.drew hb9 : w9.ownsRow w.heap.size 33 4 (.slice Ax x.length cx) x.length (x.flatMap rcells))
        all_goals have hz9 := (by have := hb9.size; simp at this; omega : wr.heap.size < w9.heap.size)
        all_goals clear hb9 q0 q1 q2 q3 p0 p1 p2 p3 hw i0 i1 i2
        cases z
        all_goals
          first
            | (go_wp2_with (at_builtin; refine appRecord _ rfl (.tmp 28) (.tmp 30) rfl w.heap.size _ x (by rfl) HO9.out nm lv tx sq _ _ _ (by rfl) (by simp) (by omega) HB9.out.size ?_)
               intro v' w2 ho2 hb2
               have HO2 := hid (And.intro (own_snoc ho2) (HB9.out.trans hb2))
               clear ho2 hb2
               go_wp2_with fail
               go_roundw
               case rel => exact ⟨j + 1 + 1, _, by go_num, by omega, fin.out HF.out, by rw [List.length_append]; show x.length + 1 ≤ _; omega, HO2.out.1, HO2.out.2⟩
               case measure => simp [intOf]; omega)
            | (go_wp2_with fail
               go_roundw
               case rel => exact ⟨j + 1 + 1, x, by go_num, by omega, mis.out HF.out, by omega, HO9.out, HB9⟩
               case measure => simp [intOf]; omega)
    · have HF := hid (show x = dropReps l by rw [HE.out, HD.out, show l.length = k by have := HV.out.2; omega])
      go_wp2_with fail
      go_ret
      exact ⟨_, rfl, by rw [← HF.out]; exact HO.out, HB.out⟩
end Go.Proofs.Ythgkkckbncgfmaa
