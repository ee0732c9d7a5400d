/-
  TREES changed: the model's checkedTree and SetQuiet.
-/
import Derived.Test.YtcgcbgbmofooiaaC6
import Derived.Test.YtcgcbgbmofooiaaC4
namespace Go.Proofs.Ytcgcbgbmofooiaa
open Go.RowKit Nm
set_option linter.unusedSimpArgs false
set_option linter.unusedVariables false

theorem changed_fit (L : List Lgr) (H : List Hnd) (q : Int) (o : Option TreeD) : dataFit (resL (changedO L H q o)) (resH (changedO L H q o)) := by
  have hn : dataFit (resL none) (resH none) := ⟨⟨by simp [resL], by simp [resL]⟩, ⟨by simp [resH], by simp [resH]⟩⟩
  unfold changedO
  cases treeOk L H q with
  | false => exact hn
  | true =>
    cases o with
    | none => exact hn
    | some x =>
      show dataFit (resL (ifOk x.1 x.2.1 x.2.2)) (resH (ifOk x.1 x.2.1 x.2.2))
      unfold ifOk
      by_cases h : treeOk x.1 x.2.1 x.2.2 = true
      · rw [if_pos h]; exact fit_ok h
      · rw [if_neg h]; exact hn
/-- what the model's check gives -/
def CheckPost (w : World) (v : Value) (b : Bool) (e : Ending) (w' : World) : Prop :=
  e = .returned (.tuple #[if b then v else .agg #[.slice none 0 0, .slice none 0 0, .int .i64 0], .bool b]) ∧ Below w.heap.size w w'

set_option maxHeartbeats 4000000 in
set_option maxRecDepth 100000 in
theorem specChecked_c {w : World} {B : Nat} {v : Value} {L : List Lgr} {H : List Hnd} {q : Int} (h : TreeIn w B v L H q) (hB : B ≤ w.heap.size) :
    Calls Try.prog 58 #[v] w (CheckPost w v (treeOk L H q)) := by
  have C := hid (fun (W : World) (hW : Below w.heap.size w W) => specTreeX_c (h.below hW hB) (Nat.le_trans hB hW.size))
  obtain ⟨A1, n1, k1, A2, n2, k2, rfl⟩ := h.form
  clear h
  cases hz : treeOk L H q with
  | false =>
    rw [hz] at C
    clear hz
    go_enter Try.func58, Try.ntmps58
    go_wp2_with fail
    refine (C.out _ ?_).mono ?_
    case refine_1 => go_grown
    rintro e w1 ⟨rfl, hb1⟩
    have K1 := ((Blk.new _ _ _).to hb1)
    simp only [World.size_alloc] at K1
    have HK1 := hid K1
    have HB1 := hid (Below.trans (by go_grown) (hb1.mono (by simp; try omega)) : Below w.heap.size w w1)
    obtain ⟨q0c, q0f⟩ := HK1.out.2 0 _ rfl
    obtain ⟨q1c, q1f⟩ := HK1.out.2 1 _ rfl
    obtain ⟨q2c, q2f⟩ := HK1.out.2 2 _ rfl
    clear hb1 K1
    go_wp2_with fail
    have RB := ((HK1.out.set 0 (.slice none 0 0)).set 1 (.slice none 0 0)).set 2 (.int .i64 0)
    have f0 := (RB.2 0 _ rfl).1
    have f1 := (RB.2 1 _ rfl).1
    have f2 := (RB.2 2 _ rfl).1
    refine bodyPost_ret (v := .tuple #[.agg #[.slice none 0 0, .slice none 0 0, .int .i64 0], .bool false]) (by simp [results, Try.results58, go_sem, f0, f1, f2]) rfl ?_
    refine ⟨rfl, ?_⟩
    iterate 3 refine Below.setCell ?_ (by simp) _
    exact HB1.out
  | true =>
    rw [hz] at C
    clear hz
    go_enter Try.func58, Try.ntmps58
    go_wp2_with fail
    refine (C.out _ ?_).mono ?_
    case refine_1 => go_grown
    rintro e w1 ⟨rfl, hb1⟩
    have K0 := (((Blk.new _ _ _).alloc _).to hb1)
    have K1 := ((Blk.new _ _ _).to hb1)
    simp only [World.size_alloc] at K0 K1
    have HK0 := hid K0
    have HK1 := hid K1
    have HB1 := hid (Below.trans (by go_grown) (hb1.mono (by simp; try omega)) : Below w.heap.size w w1)
    have d0 := (HK0.out.2 0 _ rfl).1
    have d1 := (HK0.out.2 1 _ rfl).1
    have d2 := (HK0.out.2 2 _ rfl).1
    obtain ⟨q0c, q0f⟩ := HK1.out.2 0 _ rfl
    obtain ⟨q1c, q1f⟩ := HK1.out.2 1 _ rfl
    obtain ⟨q2c, q2f⟩ := HK1.out.2 2 _ rfl
    clear hb1 K0 K1
    go_wp2_with fail
    have RB := ((HK1.out.set 0 (.slice A1 n1 k1)).set 1 (.slice A2 n2 k2)).set 2 (.int .i64 q)
    have f0 := (RB.2 0 _ rfl).1
    have f1 := (RB.2 1 _ rfl).1
    have f2 := (RB.2 2 _ rfl).1
    refine bodyPost_ret (v := .tuple #[.agg #[.slice A1 n1 k1, .slice A2 n2 k2, .int .i64 q], .bool true]) (by simp [results, Try.results58, go_sem, f0, f1, f2]) rfl ?_
    refine ⟨rfl, ?_⟩
    iterate 3 refine Below.setCell ?_ (by simp) _
    exact HB1.out

set_option maxHeartbeats 8000000 in
set_option maxRecDepth 100000 in
theorem specSetQuiet_c {w : World} {B : Nat} {v : Value} {L : List Lgr} {H : List Hnd} {q : Int} (lv : Int) (h : TreeIn w B v L H q) (hB : B ≤ w.heap.size) :
    Calls Try.prog 21 #[v, .int .i64 lv] w (TreePostO w (setQuietX L H q lv)) := by
  have C := hid (fun (W : World) (hW : Below w.heap.size w W) => specTreeX_c (h.below hW hB) (Nat.le_trans hB hW.size))
  obtain ⟨A1, n1, k1, A2, n2, k2, rfl⟩ := h.form
  cases hz : treeOk L H q with
  | false =>
    have HE := hid (show setQuietX L H q lv = none by unfold setQuietX changedO; rw [hz]; rfl)
    rw [hz] at C
    clear h hz
    go_enter Try.func21, Try.ntmps21
    go_wp2_with fail
    refine (C.out _ ?_).mono ?_
    case refine_1 => go_grown
    rintro e w1 ⟨rfl, hb1⟩
    have K1 := ((Blk.new _ _ _).to hb1)
    simp only [World.size_alloc] at K1
    have HK1 := hid K1
    have HB1 := hid (Below.trans (by go_grown) (hb1.mono (by simp; try omega)) : Below w.heap.size w w1)
    obtain ⟨q0c, q0f⟩ := HK1.out.2 0 _ rfl
    obtain ⟨q1c, q1f⟩ := HK1.out.2 1 _ rfl
    obtain ⟨q2c, q2f⟩ := HK1.out.2 2 _ rfl
    clear hb1 K1
    go_wp2_with fail
    have RB := ((HK1.out.set 0 (.slice none 0 0)).set 1 (.slice none 0 0)).set 2 (.int .i64 0)
    have f0 := (RB.2 0 _ rfl).1
    have f1 := (RB.2 1 _ rfl).1
    have f2 := (RB.2 2 _ rfl).1
    refine bodyPost_ret (v := .tuple #[.agg #[.slice none 0 0, .slice none 0 0, .int .i64 0], .bool false]) (by simp [results, Try.results21, go_sem, f0, f1, f2]) rfl ?_
    refine postO_none HE.out rfl ?_
    iterate 3 refine Below.setCell ?_ (by simp) _
    exact HB1.out
  | true =>
    have HD := hid (fit_ok hz)
    have CC := hid (fun (W : World) (hW : Below w.heap.size w W) => specCopy_c (h.below hW hB) hz (Nat.le_trans hB hW.size))
    have HE := hid (show setQuietX L H q lv = ifOk L H lv by unfold setQuietX changedO; rw [hz]; rfl)
    rw [hz] at C
    clear h hz
    go_enter Try.func21, Try.ntmps21
    go_wp2_with fail
    refine (C.out _ ?_).mono ?_
    case refine_1 => go_grown
    rintro e w1 ⟨rfl, hb1⟩
    have K0 := (((Blk.new _ _ _).alloc _).to hb1)
    have K1 := ((Blk.new _ _ _).to hb1)
    simp only [World.size_alloc] at K0 K1
    have HK0 := hid K0
    have HK1 := hid K1
    have HB1 := hid (Below.trans (by go_grown) (hb1.mono (by simp; try omega)) : Below w.heap.size w w1)
    have hsz1 : w.heap.size + 2 ≤ w1.heap.size := by have := hb1.size; simp at this; omega
    have d0 := (HK0.out.2 0 _ rfl).1
    have d1 := (HK0.out.2 1 _ rfl).1
    have d2 := (HK0.out.2 2 _ rfl).1
    clear hb1 K0 K1
    go_wp2_with fail
    refine (CC.out _ HB1.out).mono ?_
    rintro e w2 ⟨v', rs, rfl, hs, hr, hb2⟩
    obtain ⟨A3, n3, k3, A4, n4, k4, rfl⟩ := (hs.at_ hr HD.out).form
    have HB2 := hid (HB1.out.trans (hb2.mono HB1.out.size))
    have hsz12 : w1.heap.size ≤ w2.heap.size := hb2.size
    have hww1 : w.heap.size ≤ w1.heap.size := HB1.out.size
    have HK2 := hid (HK1.out.to hb2)
    have HW2 := hid (show Below w2.heap.size w2 (w2.alloc (.cells #[.slice A3 n3 k3, .slice A4 n4 k4, .int .i64 lv] 26)) from (Below.refl _ _).alloc (Nat.le_refl _) _)
    have HS2 := hid (show TreeS rs (.agg #[.slice A3 n3 k3, .slice A4 n4 k4, .int .i64 lv]) L H lv from by
      obtain ⟨u1, u2, ls, hs', e, h1, h2, h3⟩ := hs
      have e' : u1 = .slice A3 n3 k3 ∧ u2 = .slice A4 n4 k4 := by simpa using e.symm
      obtain ⟨rfl, rfl⟩ := e'
      exact ⟨_, _, ls, hs', rfl, h1, h2, h3⟩)
    have HR2 := hid (hr.below HW2.out)
    have CV := hid (specChecked_c (HS2.out.at_ HR2.out HD.out) (Nat.le_refl _))
    clear hb2 hs hr d0 d1 d2
    cases hy : treeOk L H lv with
    | false =>
      rw [hy] at CV
      have HN := hid (show setQuietX L H q lv = none by rw [HE.out]; unfold ifOk; rw [hy]; rfl)
      clear hy
      go_wp2_with fail
      refine (CV.out).mono ?_
      rintro e w4 ⟨rfl, hb4⟩
      have HK4 := hid ((HK2.out.below HW2.out (by omega)).to hb4)
      have HB4 := hid ((HB2.out.trans (HW2.out.mono HB2.out.size)).trans (hb4.mono (by simp; omega)))
      obtain ⟨q0c, q0f⟩ := HK4.out.2 0 _ rfl
      obtain ⟨q1c, q1f⟩ := HK4.out.2 1 _ rfl
      obtain ⟨q2c, q2f⟩ := HK4.out.2 2 _ rfl
      clear hb4
      go_wp2_with fail
      have RB := ((HK4.out.set 0 (.slice none 0 0)).set 1 (.slice none 0 0)).set 2 (.int .i64 0)
      have f0 := (RB.2 0 _ rfl).1
      have f1 := (RB.2 1 _ rfl).1
      have f2 := (RB.2 2 _ rfl).1
      refine bodyPost_ret (v := .tuple #[.agg #[.slice none 0 0, .slice none 0 0, .int .i64 0], .bool false]) (by simp [results, Try.results21, go_sem, f0, f1, f2]) rfl ?_
      refine postO_none HN.out rfl ?_
      iterate 3 refine Below.setCell ?_ (by simp) _
      exact HB4.out
    | true =>
      rw [hy] at CV
      have HN := hid (show setQuietX L H q lv = some (L, H, lv) by rw [HE.out]; unfold ifOk; rw [hy]; rfl)
      clear hy
      go_wp2_with fail
      refine (CV.out).mono ?_
      rintro e w4 ⟨rfl, hb4⟩
      have HK4 := hid ((HK2.out.below HW2.out (by omega)).to hb4)
      have HB4 := hid ((HB2.out.trans (HW2.out.mono HB2.out.size)).trans (hb4.mono (by simp; omega)))
      have HR4 := hid (HR2.out.below hb4)
      obtain ⟨q0c, q0f⟩ := HK4.out.2 0 _ rfl
      obtain ⟨q1c, q1f⟩ := HK4.out.2 1 _ rfl
      obtain ⟨q2c, q2f⟩ := HK4.out.2 2 _ rfl
      clear hb4
      go_wp2_with fail
      have RB := ((HK4.out.set 0 (.slice A3 n3 k3)).set 1 (.slice A4 n4 k4)).set 2 (.int .i64 lv)
      have f0 := (RB.2 0 _ rfl).1
      have f1 := (RB.2 1 _ rfl).1
      have f2 := (RB.2 2 _ rfl).1
      refine bodyPost_ret (v := .tuple #[.agg #[.slice A3 n3 k3, .slice A4 n4 k4, .int .i64 lv], .bool true]) (by simp [results, Try.results21, go_sem, f0, f1, f2]) rfl ?_
      rw [HN.out]
      refine ⟨_, rs, rfl, HS2.out, ?_, ?_⟩
      · refine Rows.base ?_ hww1
        iterate 3 refine Rows.low ?_ (by omega)
        exact HR4.out
      · iterate 3 refine Below.setCell ?_ (by simp) _
        exact HB4.out
end Go.Proofs.Ytcgcbgbmofooiaa
