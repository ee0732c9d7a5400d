/-
  STORES: validQueue of both.
-/
import Derived.Test.YtebofooaadoojaaS2
import Derived.Test.YtebofooaadoojaaKQue
namespace Go.Proofs.Ytebofooaadoojaa
open Go.RowKit Nm
set_option linter.unusedSimpArgs false
set_option linter.unusedVariables false

def queOk (d : Que) : Bool := (decide (1 ≤ d.rm) && decide (d.rm ≤ 12)) && (recsOk d.it && (decide ((d.it.length : Int) ≤ d.rm) && (decide (0 ≤ d.ls) && decide (d.ls ≤ 999))))

set_option maxHeartbeats 2000000 in
set_option maxRecDepth 100000 in
theorem specValidQueue0_c {v : Value} {B : Nat} {d : Que} {w : World} (h : QueIn w B v d) (hB : B ≤ w.heap.size) :
    Calls Try.prog 59 #[v] w (BoolPost w (queOk d)) := by
  obtain ⟨u, rfl, hu⟩ := h
  obtain ⟨rm, it, ls⟩ := d
  have C1 := hid (fun (w1 : World) (hb : Below w.heap.size w w1) => specValidRecords_c u it.length B it w1 (hu.rs.below hb hB) (Nat.le_trans hB hb.size))
  have HE := hid (show queOk ⟨rm, it, ls⟩ = ((decide (1 ≤ rm) && decide (rm ≤ 12)) && (recsOk it && (decide ((it.length : Int) ≤ rm) && (decide (0 ≤ ls) && decide (ls ≤ 999))))) from rfl)
  obtain ⟨A, c, rfl, hnc, hcm⟩ := hu.rs.1.form
  have HB0 := hid (show Below w.heap.size w (w.alloc (.cells #[.int .i64 rm, .slice A it.length c, .int .i64 ls] 61)) from (Below.refl _ _).alloc (Nat.le_refl _) _)
  have HC := hid (Below.refl (w.alloc (.cells #[.int .i64 rm, .slice A it.length c, .int .i64 ls] 61)).heap.size (w.alloc (.cells #[.int .i64 rm, .slice A it.length c, .int .i64 ls] 61)))
  unfold maxLen at hcm
  clear hu
  generalize queOk ⟨rm, it, ls⟩ = z at HE ⊢
  generalize recsOk it = q at C1 HE
  generalize it.length = n at *
  go_enter Try.func59, Try.ntmps59
  go_wp2_with (first | (go_at_call 62; refine (inRange_c _ _ _ _).mono ?_; rintro e w2 ⟨rfl, rfl⟩) | (go_at_call 51; refine (C1.out _ HB0.out).mono ?_; rintro e w1 ⟨rfl, hb⟩; replace HC := hid (HC.out.trans (hb.mono HC.out.size)); clear hb; have d0 := box_cell HC.out 0; have d1 := box_cell HC.out 1; have d2 := box_cell HC.out 2))
  all_goals go_ret
  all_goals exact ⟨ret_bool (by rw [HE.out]; simp_all; try (intros; omega)), HB0.out.trans (HC.out.mono (by simp))⟩

set_option maxHeartbeats 400000 in
set_option maxRecDepth 100000 in
theorem specValidQueue_c {v : Value} {B : Nat} {d : Que} {w : World} (h : QueIn w B v d) (hB : B ≤ w.heap.size) :
    Calls Try.prog 37 #[v] w (BoolPost w (queOk d)) := by
  obtain ⟨A, n, c, hv⟩ := h.form
  have C := hid (fun (w1 : World) (hb : Below w.heap.size w w1) => specValidQueue0_c (h.below hb hB) (Nat.le_trans hB hb.size))
  clear h
  generalize queOk d = z at *
  obtain ⟨rm, it, ls⟩ := d
  subst hv
  go_enter Try.func37, Try.ntmps37
  go_wp2_with fail
  refine (C.out _ (by go_grown)).mono ?_
  rintro e w1 ⟨rfl, hb⟩
  have HB := hid (Below.mono hb (by simp) : Below w.heap.size _ w1)
  clear hb
  go_wp2_with fail
  go_ret
  exact ⟨rfl, Below.trans (by go_grown) HB.out⟩

set_option maxHeartbeats 2000000 in
set_option maxRecDepth 100000 in
theorem implValidQueue_c {v : Value} {B : Nat} {d : Que} {w : World} (h : QueIn w B v d) (hB : B ≤ w.heap.size) :
    Calls Try.prog 39 #[v] w (BoolPost w (queOk d)) := by
  obtain ⟨u, rfl, hu⟩ := h
  obtain ⟨rm, it, ls⟩ := d
  have C1 := hid (fun (w1 : World) (hb : Below w.heap.size w w1) => implValidRecords_c u it.length B it w1 (hu.rs.below hb hB) (Nat.le_trans hB hb.size))
  have HE := hid (show queOk ⟨rm, it, ls⟩ = ((decide (1 ≤ rm) && decide (rm ≤ 12)) && (recsOk it && (decide ((it.length : Int) ≤ rm) && (decide (0 ≤ ls) && decide (ls ≤ 999))))) from rfl)
  obtain ⟨A, c, rfl, hnc, hcm⟩ := hu.rs.1.form
  have HB0 := hid (show Below w.heap.size w (w.alloc (.cells #[.int .i64 rm, .slice A it.length c, .int .i64 ls] 61)) from (Below.refl _ _).alloc (Nat.le_refl _) _)
  have HC := hid (Below.refl (w.alloc (.cells #[.int .i64 rm, .slice A it.length c, .int .i64 ls] 61)).heap.size (w.alloc (.cells #[.int .i64 rm, .slice A it.length c, .int .i64 ls] 61)))
  unfold maxLen at hcm
  clear hu
  generalize queOk ⟨rm, it, ls⟩ = z at HE ⊢
  generalize recsOk it = q at C1 HE
  generalize it.length = n at *
  have CW := hid (fun (a lo hi : Int) (W : World) => (within_c a lo hi W))
  go_enter Try.func39, Try.ntmps39
  go_wp2_with (first | (go_at_call 49; refine (CW.out _ _ _ _).mono ?_; rintro e w2 ⟨rfl, rfl⟩) | (go_at_call 50; refine (C1.out _ HB0.out).mono ?_; rintro e w1 ⟨rfl, hb⟩; replace HC := hid (HC.out.trans (hb.mono HC.out.size)); clear hb; have d0 := box_cell HC.out 0; have d1 := box_cell HC.out 1; have d2 := box_cell HC.out 2))
  all_goals go_ret
  all_goals exact ⟨ret_bool (by rw [HE.out]; simp_all; try (intros; omega)), HB0.out.trans (HC.out.mono (by simp))⟩
end Go.Proofs.Ytebofooaadoojaa
