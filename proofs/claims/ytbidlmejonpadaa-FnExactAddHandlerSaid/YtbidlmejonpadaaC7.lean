/-
  TREES changed: the model's checkedTree and SetQuiet.
-/
import Derived.Test.YtbidlmejonpadaaC6
import Derived.Test.YtbidlmejonpadaaC4
namespace Go.Proofs.Ytbidlmejonpadaa
open Go.RowKit Nm
set_option linter.unusedSimpArgs false
set_option linter.unusedVariables false

theorem changed_fit (L : List Lgr) (H : List Hnd) (q : Int) (o : Option TreeD) : dataFit (resL (changedO L H q o)) (resH (changedO L H q o)) := by
  have hn : dataFit (resL none) (resH none) := ⟨⟨by simp [resL], by simp [resL]⟩, ⟨by simp [resH], by simp [resH]⟩⟩
  unfold changedO
  cases treeOk L H q with
  | false => exact hn
  | true =>
    cases o with
    | none => exact hn
    | some x =>
      show dataFit (resL (ifOk x.1 x.2.1 x.2.2)) (resH (ifOk x.1 x.2.1 x.2.2))
      unfold ifOk
      by_cases h : treeOk x.1 x.2.1 x.2.2 = true
      · rw [if_pos h]; exact fit_ok h
      · rw [if_neg h]; exact hn
/-- what the model's check gives -/
def CheckPost (w : World) (v : Value) (b : Bool) (e : Ending) (w' : World) : Prop :=
  e = .returned (.tuple #[if b then v else .agg #[.slice none 0 0, .slice none 0 0, .int .i64 0], .bool b]) ∧ Below w.heap.size w w'

set_option maxHeartbeats 4000000 in
set_option maxRecDepth 100000 in
theorem specChecked_c {w : World} {B : Nat} {v : Value} {L : List Lgr} {H : List Hnd} {q : Int} (h : TreeIn w B v L H q) (hB : B ≤ w.heap.size) :
    Calls Try.prog 56 #[v] w (CheckPost w v (treeOk L H q)) := by
  have C := hid (fun (W : World) (hW : Below w.heap.size w W) => specTreeX_c (h.below hW hB) (Nat.le_trans hB hW.size))
  obtain ⟨A1, n1, k1, A2, n2, k2, rfl⟩ := h.form
  clear h
  cases hz : treeOk L H q with
  | false =>
    rw [hz] at C
    clear hz
    go_enter Try.func56, Try.ntmps56
    go_wp2_with fail
    refine (C.out _ ?_).mono ?_
    case refine_1 => go_grown
    rintro e w1 ⟨rfl, hb1⟩
    have K1 := ((Blk.new _ _ _).to hb1)
    simp only [World.size_alloc] at K1
    have HK1 := hid K1
    have HB1 := hid (Below.trans (by go_grown) (hb1.mono (by simp; try omega)) : Below w.heap.size w w1)
    obtain ⟨q0c, q0f⟩ := HK1.out.2 0 _ rfl
    obtain ⟨q1c, q1f⟩ := HK1.out.2 1 _ rfl
    obtain ⟨q2c, q2f⟩ := HK1.out.2 2 _ rfl
    clear hb1 K1
    go_wp2_with fail
    have RB := ((HK1.out.set 0 (.slice none 0 0)).set 1 (.slice none 0 0)).set 2 (.int .i64 0)
    have f0 := (RB.2 0 _ rfl).1
    have f1 := (RB.2 1 _ rfl).1
    have f2 := (RB.2 2 _ rfl).1
    refine bodyPost_ret (v := .tuple #[.agg #[.slice none 0 0, .slice none 0 0, .int .i64 0], .bool false]) (by simp [results, Try.results56, go_sem, f0, f1, f2]) rfl ?_
    refine ⟨rfl, ?_⟩
    iterate 3 refine Below.setCell ?_ (by simp) _
    exact HB1.out
  | true =>
    rw [hz] at C
    clear hz
    go_enter Try.func56, Try.ntmps56
    go_wp2_with fail
    refine (C.out _ ?_).mono ?_
    case refine_1 => go_grown
    rintro e w1 ⟨rfl, hb1⟩
    have K0 := (((Blk.new _ _ _).alloc _).to hb1)
    have K1 := ((Blk.new _ _ _).to hb1)
    simp only [World.size_alloc] at K0 K1
    have HK0 := hid K0
    have HK1 := hid K1
    have HB1 := hid (Below.trans (by go_grown) (hb1.mono (by simp; try omega)) : Below w.heap.size w w1)
    have d0 := (HK0.out.2 0 _ rfl).1
    have d1 := (HK0.out.2 1 _ rfl).1
    have d2 := (HK0.out.2 2 _ rfl).1
    obtain ⟨q0c, q0f⟩ := HK1.out.2 0 _ rfl
    obtain ⟨q1c, q1f⟩ := HK1.out.2 1 _ rfl
    obtain ⟨q2c, q2f⟩ := HK1.out.2 2 _ rfl
    clear hb1 K0 K1
    go_wp2_with fail
    have RB := ((HK1.out.set 0 (.slice A1 n1 k1)).set 1 (.slice A2 n2 k2)).set 2 (.int .i64 q)
    have f0 := (RB.2 0 _ rfl).1
    have f1 := (RB.2 1 _ rfl).1
    have f2 := (RB.2 2 _ rfl).1
    refine bodyPost_ret (v := .tuple #[.agg #[.slice A1 n1 k1, .slice A2 n2 k2, .int .i64 q], .bool true]) (by simp [results, Try.results56, go_sem, f0, f1, f2]) rfl ?_
    refine ⟨rfl, ?_⟩
    iterate 3 refine Below.setCell ?_ (by simp) _
    exact HB1.out

end Go.Proofs.Ytbidlmejonpadaa
