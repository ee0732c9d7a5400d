/-
  STORES: validQueue of both.
-/
import Derived.Test.YthgkkckbncgfmaaS2
import Derived.Test.YthgkkckbncgfmaaKQue
namespace Go.Proofs.Ythgkkckbncgfmaa
open Go.RowKit Nm
set_option linter.unusedSimpArgs false
set_option linter.unusedVariables false

def queOk (d : Que) : Bool := (decide (1 ≤ d.rm) && decide (d.rm ≤ 12)) && (recsOk d.it && (decide ((d.it.length : Int) ≤ d.rm) && (decide (0 ≤ d.ls) && decide (d.ls ≤ 999))))

set_option maxHeartbeats 2000000 in
set_option maxRecDepth 100000 in
theorem specValidQueue0_c {v : Value} {B : Nat} {d : Que} {w : World} (h : QueIn w B v d) (hB : B ≤ w.heap.size) :
    Calls Try.prog 55 #[v] w (BoolPost w (queOk d)) := by
  obtain ⟨u, rfl, hu⟩ := h
  obtain ⟨rm, it, ls⟩ := d
  have C1 := hid (fun (w1 : World) (hb : Below w.heap.size w w1) => specValidRecords_c u it.length B it w1 (hu.rs.below hb hB) (Nat.le_trans hB hb.size))
  have HE := hid (show queOk ⟨rm, it, ls⟩ = ((decide (1 ≤ rm) && decide (rm ≤ 12)) && (recsOk it && (decide ((it.length : Int) ≤ rm) && (decide (0 ≤ ls) && decide (ls ≤ 999))))) from rfl)
  obtain ⟨A, c, rfl, hnc, hcm⟩ := hu.rs.1.form
  have HB0 := hid (show Below w.heap.size w (w.alloc (.cells #[.int .i64 rm, .slice A it.length c, .int .i64 ls] 50)) from (Below.refl _ _).alloc (Nat.le_refl _) _)
  have HC := hid (Below.refl (w.alloc (.cells #[.int .i64 rm, .slice A it.length c, .int .i64 ls] 50)).heap.size (w.alloc (.cells #[.int .i64 rm, .slice A it.length c, .int .i64 ls] 50)))
  unfold maxLen at hcm
  clear hu
  generalize queOk ⟨rm, it, ls⟩ = z at HE ⊢
  generalize recsOk it = q at C1 HE
  generalize it.length = n at *
  go_enter Try.func55, Try.ntmps55
  go_wp2_with (first | (go_at_call 63; refine (inRange_c _ _ _ _).mono ?_; rintro e w2 ⟨rfl, rfl⟩) | (go_at_call 40; refine (C1.out _ HB0.out).mono ?_; rintro e w1 ⟨rfl, hb⟩; replace HC := hid (HC.out.trans (hb.mono HC.out.size)); clear hb; have d0 := box_cell HC.out 0; have d1 := box_cell HC.out 1; have d2 := box_cell HC.out 2))
  all_goals go_ret
  all_goals exact ⟨ret_bool (by rw [HE.out]; simp_all; try (intros; omega)), HB0.out.trans (HC.out.mono (by simp))⟩

set_option maxHeartbeats 400000 in
set_option maxRecDepth 100000 in
theorem specValidQueue_c {v : Value} {B : Nat} {d : Que} {w : World} (h : QueIn w B v d) (hB : B ≤ w.heap.size) :
    Calls Try.prog 36 #[v] w (BoolPost w (queOk d)) := by
  obtain ⟨A, n, c, hv⟩ := h.form
  have C := hid (fun (w1 : World) (hb : Below w.heap.size w w1) => specValidQueue0_c (h.below hb hB) (Nat.le_trans hB hb.size))
  clear h
  generalize queOk d = z at *
  obtain ⟨rm, it, ls⟩ := d
  subst hv
  go_enter Try.func36, Try.ntmps36
  go_wp2_with fail
  refine (C.out _ (by go_grown)).mono ?_
  rintro e w1 ⟨rfl, hb⟩
  have HB := hid (Below.mono hb (by simp) : Below w.heap.size _ w1)
  clear hb
  go_wp2_with fail
  go_ret
  exact ⟨rfl, Below.trans (by go_grown) HB.out⟩

set_option maxHeartbeats 2000000 in
set_option maxRecDepth 100000 in
theorem implValidQueue_c {v : Value} {B : Nat} {d : Que} {w : World} (h : QueIn w B v d) (hB : B ≤ w.heap.size) :
    Calls Try.prog 35 #[v] w (BoolPost w (queOk d)) := by
  obtain ⟨u, rfl, hu⟩ := h
  obtain ⟨rm, it, ls⟩ := d
  have C1 := hid (fun (w1 : World) (hb : Below w.heap.size w w1) => implValidRecords_c u it.length B it w1 (hu.rs.below hb hB) (Nat.le_trans hB hb.size))
  have HE := hid (show queOk ⟨rm, it, ls⟩ = ((decide (1 ≤ rm) && decide (rm ≤ 12)) && (recsOk it && (decide ((it.length : Int) ≤ rm) && (decide (0 ≤ ls) && decide (ls ≤ 999))))) from rfl)
  obtain ⟨A, c, rfl, hnc, hcm⟩ := hu.rs.1.form
  have HB0 := hid (show Below w.heap.size w (w.alloc (.cells #[.int .i64 rm, .slice A it.length c, .int .i64 ls] 50)) from (Below.refl _ _).alloc (Nat.le_refl _) _)
  have HC := hid (Below.refl (w.alloc (.cells #[.int .i64 rm, .slice A it.length c, .int .i64 ls] 50)).heap.size (w.alloc (.cells #[.int .i64 rm, .slice A it.length c, .int .i64 ls] 50)))
  unfold maxLen at hcm
  clear hu
  generalize queOk ⟨rm, it, ls⟩ = z at HE ⊢
  generalize recsOk it = q at C1 HE
  generalize it.length = n at *
  have CW := hid (fun (a lo hi : Int) (W : World) => (within_c a lo hi W))
  go_enter Try.func35, Try.ntmps35
  go_wp2_with (first | (go_at_call 48; refine (CW.out _ _ _ _).mono ?_; rintro e w2 ⟨rfl, rfl⟩) | (go_at_call 15; refine (C1.out _ HB0.out).mono ?_; rintro e w1 ⟨rfl, hb⟩; replace HC := hid (HC.out.trans (hb.mono HC.out.size)); clear hb; have d0 := box_cell HC.out 0; have d1 := box_cell HC.out 1; have d2 := box_cell HC.out 2))
  all_goals go_ret
  all_goals exact ⟨ret_bool (by rw [HE.out]; simp_all; try (intros; omega)), HB0.out.trans (HC.out.mono (by simp))⟩
end Go.Proofs.Ythgkkckbncgfmaa
