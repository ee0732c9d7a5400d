/-
  STORES: validBuffer of both.
-/
import Derived.Test.YtfjpfdmlcgkfeaaS1
import Derived.Test.YtfjpfdmlcgkfeaaKBuf
namespace Go.Proofs.Ytfjpfdmlcgkfeaa
open Go.RowKit Nm
set_option linter.unusedSimpArgs false
set_option linter.unusedVariables false

theorem RecsIn.rs {w : World} {B : Nat} {v : Value} {l : List Rec} (h : RecsIn w B v l) : Rs w B l.length v l := h.1
theorem within_c (a lo hi : Int) (w : World) :
    Calls Try.prog 39 #[.int .i64 a, .int .i64 lo, .int .i64 hi] w fun e w' => e = .returned (.bool (decide (lo ≤ a) && decide (a ≤ hi))) ∧ w = w' := by
  go_enter Try.func39, Try.ntmps39
  go_wp2_with fail
  all_goals go_ret
  all_goals exact ⟨ret_bool (by first | (simp_all; done) | (simp_all <;> intros <;> omega)), rfl⟩

def bufOk (d : Buf) : Bool := (decide (1 ≤ d.rm) && decide (d.rm ≤ 12)) && ((decide (1 ≤ d.lv) && decide (d.lv ≤ 61)) && (recsOk d.rc && (decide ((d.rc.length : Int) < d.rm) && ((atL d.rc d.lv).length : Int) == 0)))

set_option maxHeartbeats 2000000 in
set_option maxRecDepth 100000 in
theorem specValidBuffer0_c {v : Value} {B : Nat} {d : Buf} {w : World} (h : BufIn w B v d) (hB : B ≤ w.heap.size) :
    Calls Try.prog 25 #[v] w (BoolPost w (bufOk d)) := by
  obtain ⟨u, rfl, hu⟩ := h
  obtain ⟨rm, lv, rc⟩ := d
  have hln := hu.rs.count
  have C1 := hid (fun (w1 : World) (hb : Below w.heap.size w w1) => specValidRecords_c u rc.length B rc w1 (hu.rs.below hb hB) (Nat.le_trans hB hb.size))
  have C2 := hid (fun (w1 : World) (hb : Below w.heap.size w w1) => specAtLeast0_c u rc.length B rc lv w1 (hu.rs.below hb hB) (Nat.le_trans hB hb.size) hu.2)
  have HE := hid (show bufOk ⟨rm, lv, rc⟩ = ((decide (1 ≤ rm) && decide (rm ≤ 12)) && ((decide (1 ≤ lv) && decide (lv ≤ 61)) && (recsOk rc && (decide ((rc.length : Int) < rm) && ((atL rc lv).length : Int) == 0)))) from rfl)
  obtain ⟨A, c, rfl, hnc, hcm⟩ := hu.rs.1.form
  have HB0 := hid (show Below w.heap.size w (w.alloc (.cells #[.int .i64 rm, .int .i64 lv, .slice A rc.length c] 29)) from (Below.refl _ _).alloc (Nat.le_refl _) _)
  have HC := hid (Below.refl (w.alloc (.cells #[.int .i64 rm, .int .i64 lv, .slice A rc.length c] 29)).heap.size (w.alloc (.cells #[.int .i64 rm, .int .i64 lv, .slice A rc.length c] 29)))
  unfold maxLen at hcm
  clear hu hln
  generalize bufOk ⟨rm, lv, rc⟩ = z at HE ⊢
  generalize recsOk rc = q at C1 HE
  generalize (atL rc lv) = m at C2 HE
  generalize rc.length = n at *
  go_enter Try.func25, Try.ntmps25
  go_wp2_with (first | (go_at_call 41; refine (inRange_c _ _ _ _).mono ?_; rintro e w2 ⟨rfl, rfl⟩) | (go_at_call 26; refine (C1.out _ HB0.out).mono ?_; rintro e w1 ⟨rfl, hb⟩; replace HC := hid (HC.out.trans (hb.mono HC.out.size)); clear hb; have d0 := box_cell HC.out 0; have d1 := box_cell HC.out 1; have d2 := box_cell HC.out 2) | (go_at_call 42; refine (C2.out _ (HB0.out.trans (HC.out.mono (by simp)))).mono ?_; rintro e w3 ⟨v', rfl, ho, hb⟩; replace HC := hid (HC.out.trans (hb.mono HC.out.size)); obtain ⟨A3, c3, rfl, _, _⟩ := (Sl.of_own ho).form; clear hb ho))
  all_goals go_ret
  all_goals exact ⟨ret_bool (by rw [HE.out]; simp_all; try (intros; omega)), HB0.out.trans (HC.out.mono (by simp))⟩

set_option maxHeartbeats 2000000 in
set_option maxRecDepth 100000 in
theorem implValidBuffer_c {v : Value} {B : Nat} {d : Buf} {w : World} (h : BufIn w B v d) (hB : B ≤ w.heap.size) :
    Calls Try.prog 23 #[v] w (BoolPost w (bufOk d)) := by
  obtain ⟨u, rfl, hu⟩ := h
  obtain ⟨rm, lv, rc⟩ := d
  have C1 := hid (fun (w1 : World) (hb : Below w.heap.size w w1) => implValidRecords_c u rc.length B rc w1 (hu.rs.below hb hB) (Nat.le_trans hB hb.size))
  have C2 := hid (fun (w1 : World) (hb : Below w.heap.size w w1) => implAtLeast_c u rc.length B rc lv w1 (hu.rs.below hb hB) (Nat.le_trans hB hb.size) hu.2)
  have HE := hid (show bufOk ⟨rm, lv, rc⟩ = ((decide (1 ≤ rm) && decide (rm ≤ 12)) && ((decide (1 ≤ lv) && decide (lv ≤ 61)) && (recsOk rc && (decide ((rc.length : Int) < rm) && ((atLX rc lv).length : Int) == 0)))) by
    unfold bufOk atLX; cases recsOk rc <;> simp)
  obtain ⟨A, c, rfl, hnc, hcm⟩ := hu.rs.1.form
  have HB0 := hid (show Below w.heap.size w (w.alloc (.cells #[.int .i64 rm, .int .i64 lv, .slice A rc.length c] 29)) from (Below.refl _ _).alloc (Nat.le_refl _) _)
  have HC := hid (Below.refl (w.alloc (.cells #[.int .i64 rm, .int .i64 lv, .slice A rc.length c] 29)).heap.size (w.alloc (.cells #[.int .i64 rm, .int .i64 lv, .slice A rc.length c] 29)))
  unfold maxLen at hcm
  clear hu
  generalize bufOk ⟨rm, lv, rc⟩ = z at HE ⊢
  generalize recsOk rc = q at C1 HE
  generalize (atLX rc lv) = m at C2 HE
  generalize rc.length = n at *
  have CW := hid (fun (a lo hi : Int) (W : World) => (within_c a lo hi W))
  go_enter Try.func23, Try.ntmps23
  go_wp2_with (first | (go_at_call 39; refine (CW.out _ _ _ _).mono ?_; rintro e w2 ⟨rfl, rfl⟩) | (go_at_call 30; refine (C1.out _ HB0.out).mono ?_; rintro e w1 ⟨rfl, hb⟩; replace HC := hid (HC.out.trans (hb.mono HC.out.size)); clear hb; have d0 := box_cell HC.out 0; have d1 := box_cell HC.out 1; have d2 := box_cell HC.out 2) | (go_at_call 40; refine (C2.out _ (HB0.out.trans (HC.out.mono (by simp)))).mono ?_; rintro e w3 ⟨v', rfl, ho, hb⟩; replace HC := hid (HC.out.trans (hb.mono HC.out.size)); obtain ⟨A3, c3, rfl, _, _⟩ := (Sl.of_own ho).form; clear hb ho))
  all_goals go_ret
  all_goals exact ⟨ret_bool (by rw [HE.out]; simp_all; try (intros; omega)), HB0.out.trans (HC.out.mono (by simp))⟩
end Go.Proofs.Ytfjpfdmlcgkfeaa
