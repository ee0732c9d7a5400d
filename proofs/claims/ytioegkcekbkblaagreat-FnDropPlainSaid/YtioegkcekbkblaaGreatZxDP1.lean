/-
  A LOGGER WITH NOTHING; changedTree with a change that captures nothing. By gen_dp1.py.
-/
import Derived.Test.YtioegkcekbkblaaGreatZxDL5
import Derived.Test.YtioegkcekbkblaaGreatZxDL3
namespace Go.Proofs.YtioegkcekbkblaaGreat
open Go.RowKit Nm
set_option linter.unusedSimpArgs false
set_option linter.unusedVariables false

def bareB (lv : Int) (n n1 : Nat) (st off : Bool) : Bool := decide (lv = 0) && (decide (n = 0) && (decide (n1 = 0) && (!st && !off)))
theorem emp_f {p : ByteArray} (h : decide (p.data.toList = []) = false) : p.toList.isEmpty = false := by
  have h9 := eq_false_of (a := p) (b := ⟨#[]⟩) (of_decide_eq_false h)
  cases hx : p.toList with
  | nil => rw [hx] at h9; simp at h9
  | cons a l => rfl
theorem emp_t {p : ByteArray} (h : decide (p.data.toList = []) = true) : p.toList.isEmpty = true := by
  have h9 := eq_true_of (a := p) (b := ⟨#[]⟩) (of_decide_eq_true h)
  cases hx : p.toList with
  | nil => rfl
  | cons a l => rw [hx] at h9; simp at h9
theorem keep_eq (l : Lgr) : keepL l = !(!decide (l.nm = []) && bareB l.lv l.hs.length l.fs.length l.stop l.off) := rfl
set_option maxHeartbeats 4000000 in
set_option maxRecDepth 100000 in
theorem isPlain_c (p : ByteArray) (lv : Int) (A A1 : Option Addr) (n c n1 c1 : Nat) (st off : Bool) (w : World) :
    Calls Tryz.prog 78 #[.agg #[.string p, .int .i64 lv, .slice A n c, .slice A1 n1 c1, .bool st, .bool off]] w (fun e w' => e = .returned (.bool (!decide (p.data.toList = []) && bareB lv n n1 st off)) ∧ Below w.heap.size w w') := by
  unfold bareB
  cases hp : decide (p.data.toList = []) with
  | false =>
    have e1 : p.toList.isEmpty = false := emp_f hp
    clear hp
    cases hl : decide (lv = 0) with
    | false =>
      have e2 : (lv == 0) = false := by simpa using hl
      clear hl
      go_enter Tryz.func78, Tryz.ntmps78
      go_wp2_with fail
      go_ret
      exact ⟨by first | rfl | simp, by go_grown⟩
    | true =>
      have e2 : (lv == 0) = true := by simpa using hl
      clear hl
      cases h1 : decide (n = 0) with
      | false =>
        have e1x : ((n : Int) == 0) = false := by have := of_decide_eq_false h1; simp; omega
        clear h1
        go_enter Tryz.func78, Tryz.ntmps78
        go_wp2_with fail
        go_ret
        exact ⟨by first | rfl | simp, by go_grown⟩
      | true =>
        have e1x : ((n : Int) == 0) = true := by have := of_decide_eq_true h1; simp; omega
        clear h1
        cases h2 : decide (n1 = 0) with
        | false =>
          have e2x : ((n1 : Int) == 0) = false := by have := of_decide_eq_false h2; simp; omega
          clear h2
          go_enter Tryz.func78, Tryz.ntmps78
          go_wp2_with fail
          go_ret
          exact ⟨by first | rfl | simp, by go_grown⟩
        | true =>
          have e2x : ((n1 : Int) == 0) = true := by have := of_decide_eq_true h2; simp; omega
          clear h2
          cases st with
          | false =>
            cases off with
            | false =>
              go_enter Tryz.func78, Tryz.ntmps78
              go_wp2_with fail
              go_ret
              exact ⟨by first | rfl | simp, by go_grown⟩
            | true =>
              go_enter Tryz.func78, Tryz.ntmps78
              go_wp2_with fail
              go_ret
              exact ⟨by first | rfl | simp, by go_grown⟩
          | true =>
            go_enter Tryz.func78, Tryz.ntmps78
            go_wp2_with fail
            go_ret
            exact ⟨by first | rfl | simp, by go_grown⟩
  | true =>
    have e1 : p.toList.isEmpty = true := emp_t hp
    clear hp
    go_enter Tryz.func78, Tryz.ntmps78
    go_wp2_with fail
    go_ret
    exact ⟨by first | rfl | simp, by go_grown⟩
set_option maxHeartbeats 4000000 in
set_option maxRecDepth 100000 in
theorem plain_c (p : ByteArray) (lv : Int) (A A1 : Option Addr) (n c n1 c1 : Nat) (st off : Bool) (w : World) :
    Calls Tryz.prog 79 #[.agg #[.string p, .int .i64 lv, .slice A n c, .slice A1 n1 c1, .bool st, .bool off]] w (fun e w' => e = .returned (.bool (bareB lv n n1 st off)) ∧ Below w.heap.size w w') := by
  unfold bareB
  cases hl : decide (lv = 0) with
  | false =>
    have e2 : (lv == 0) = false := by simpa using hl
    clear hl
    go_enter Tryz.func79, Tryz.ntmps79
    go_wp2_with fail
    go_ret
    exact ⟨by first | rfl | simp, by go_grown⟩
  | true =>
    have e2 : (lv == 0) = true := by simpa using hl
    clear hl
    cases h1 : decide (n = 0) with
    | false =>
      have e1x : ((n : Int) == 0) = false := by have := of_decide_eq_false h1; simp; omega
      clear h1
      go_enter Tryz.func79, Tryz.ntmps79
      go_wp2_with fail
      go_ret
      exact ⟨by first | rfl | simp, by go_grown⟩
    | true =>
      have e1x : ((n : Int) == 0) = true := by have := of_decide_eq_true h1; simp; omega
      clear h1
      cases h2 : decide (n1 = 0) with
      | false =>
        have e2x : ((n1 : Int) == 0) = false := by have := of_decide_eq_false h2; simp; omega
        clear h2
        go_enter Tryz.func79, Tryz.ntmps79
        go_wp2_with fail
        go_ret
        exact ⟨by first | rfl | simp, by go_grown⟩
      | true =>
        have e2x : ((n1 : Int) == 0) = true := by have := of_decide_eq_true h2; simp; omega
        clear h2
        cases st with
        | false =>
          cases off with
          | false =>
            go_enter Tryz.func79, Tryz.ntmps79
            go_wp2_with fail
            go_ret
            exact ⟨by first | rfl | simp, by go_grown⟩
          | true =>
            go_enter Tryz.func79, Tryz.ntmps79
            go_wp2_with fail
            go_ret
            exact ⟨by first | rfl | simp, by go_grown⟩
        | true =>
          go_enter Tryz.func79, Tryz.ntmps79
          go_wp2_with fail
          go_ret
          exact ⟨by first | rfl | simp, by go_grown⟩
set_option maxHeartbeats 8000000 in
set_option maxRecDepth 100000 in
theorem implChanged0_c {w : World} {B : Nat} {v : Value} {L : List Lgr} {H : List Hnd} {q : Int} (F : Nat) (o : Option TreeD) (h : TreeIn w B v L H q) (hB : B ≤ w.heap.size) (hin : ∀ (args : Array Value) (W : World), (callFunc F args).run Tryz.prog W = .ok (.enter F args) W)
    (hF : ∀ (W : World) (lo bc : Nat) (v1 v2 : Value) (rs : List Row), treeOk L H q = true → CloPre w lo bc W v1 v2 rs L H q → Calls Tryz.prog F #[.pointer (some ⟨bc, 0, none⟩)] W (CloPost lo bc W o)) :
    Calls Tryz.prog 53 #[v, .func (.func F) #[] #[]] w (TreePostO w (changedO L H q o)) := by
  have C := hid (fun (W : World) (hW : Below w.heap.size w W) => implValidTreeX_c (h.below hW hB) (Nat.le_trans hB hW.size))
  have HF := hid hF
  clear hF
  obtain ⟨A1, n1, k1, A2, n2, k2, rfl⟩ := h.form
  cases hz : treeOk L H q with
  | false =>
    have HE := hid (show changedO L H q o = none by unfold changedO; rw [hz]; rfl)
    rw [hz] at C
    clear h hz
    go_enter Tryz.func53, Tryz.ntmps53
    go_wp2_with fail
    refine (C.out _ ?_).mono ?_
    case refine_1 => go_grown
    rintro e w1 ⟨rfl, hb1⟩
    have K1 := ((Blk.new _ _ _).to hb1)
    simp only [World.size_alloc] at K1
    have HK1 := hid K1
    have HB1 := hid (Below.trans (by go_grown) (hb1.mono (by simp; try omega)) : Below w.heap.size w w1)
    obtain ⟨q0c, q0f⟩ := HK1.out.2 0 _ rfl
    obtain ⟨q1c, q1f⟩ := HK1.out.2 1 _ rfl
    obtain ⟨q2c, q2f⟩ := HK1.out.2 2 _ rfl
    clear hb1 K1
    go_wp2_with fail
    have RB := ((HK1.out.set 0 (.slice none 0 0)).set 1 (.slice none 0 0)).set 2 (.int .i64 0)
    have f0 := (RB.2 0 _ rfl).1
    have f1 := (RB.2 1 _ rfl).1
    have f2 := (RB.2 2 _ rfl).1
    refine bodyPost_ret (v := .tuple #[.agg #[.slice none 0 0, .slice none 0 0, .int .i64 0], .bool false]) (by simp [results, Tryz.results53, go_sem, f0, f1, f2]) rfl ?_
    refine postO_none HE.out rfl ?_
    iterate 3 refine Below.setCell ?_ (by simp) _
    exact HB1.out
  | true =>
    have hd := fit_ok hz
    have CC := hid (fun (W : World) (hW : Below w.heap.size w W) => implCopy_c (h.below hW hB) hz (Nat.le_trans hB hW.size))
    have HD := hid hd
    have HE := hid (show changedO L H q o = o.bind (fun x => ifOk x.1 x.2.1 x.2.2) by unfold changedO; rw [hz]; rfl)
    have HZ := hid hz
    rw [hz] at C
    clear h hz hd
    go_enter Tryz.func53, Tryz.ntmps53
    go_wp2_with fail
    refine (C.out _ ?_).mono ?_
    case refine_1 => go_grown
    rintro e w1 ⟨rfl, hb1⟩
    have K0 := (((Blk.new _ _ _).alloc _).to hb1)
    have K1 := ((Blk.new _ _ _).to hb1)
    simp only [World.size_alloc] at K0 K1
    have HK0 := hid K0
    have HK1 := hid K1
    have HB1 := hid (Below.trans (by go_grown) (hb1.mono (by simp; try omega)) : Below w.heap.size w w1)
    have hsz1 : w.heap.size + 2 ≤ w1.heap.size := by have := hb1.size; simp at this; omega
    have d0 := (HK0.out.2 0 _ rfl).1
    have d1 := (HK0.out.2 1 _ rfl).1
    have d2 := (HK0.out.2 2 _ rfl).1
    clear hb1 K0 K1
    go_wp2_with fail
    refine (CC.out _ HB1.out).mono ?_
    rintro e w2 ⟨v', rs, rfl, hs, hr, hb2⟩
    obtain ⟨A3, n3, k3, A4, n4, k4, rfl⟩ := (hs.at_ hr HD.out).form
    have HB2 := hid (HB1.out.trans (hb2.mono HB1.out.size))
    have HB12 := hid hb2
    have HS2 := hid hs
    have HRl := hid hr
    have hsz12 : w1.heap.size ≤ w2.heap.size := hb2.size
    have hww1 : w.heap.size ≤ w1.heap.size := HB1.out.size
    clear hb2 hs hr d0 d1 d2
    have HW2 := hid (show Below w2.heap.size w2 (w2.alloc (.cells #[.slice A3 n3 k3, .slice A4 n4 k4, .int .i64 q] 26)) from (Below.refl _ _).alloc (Nat.le_refl _) _)
    have KC := hid (Blk.new w2 #[.slice A3 n3 k3, .slice A4 n4 k4, .int .i64 q] 26)
    have CF := hid (HF.out (w2.alloc (.cells #[.slice A3 n3 k3, .slice A4 n4 k4, .int .i64 q] 26)) w1.heap.size w2.heap.size (.slice A3 n3 k3) (.slice A4 n4 k4) rs HZ.out
      ⟨HB2.out.trans (HW2.out.mono HB2.out.size), hww1, hsz12, KC.out, HS2.out, HRl.out.below HW2.out, rows_below HRl.out, HD.out⟩)
    go_wp2_with fail
    refine (CF.out).mono ?_
    rintro e w3 ⟨hb3, rfl, hx⟩
    have HW3 := hid ((HW2.out.mono hsz12).trans hb3)
    have HX := hid hx
    have HK3 := hid (HK1.out.below ((show Below w1.heap.size w1 w2 from HB12.out).trans HW3.out) (by omega))
    have HB3 := hid (HB1.out.trans (((show Below w1.heap.size w1 w2 from HB12.out).trans HW3.out).mono hww1))
    clear hx hb3 CF
    cases ho : o with
    | none =>
      subst ho
      have HN := hid (show changedO L H q none = none by rw [HE.out]; rfl)
      obtain ⟨q0c, q0f⟩ := HK3.out.2 0 _ rfl
      obtain ⟨q1c, q1f⟩ := HK3.out.2 1 _ rfl
      obtain ⟨q2c, q2f⟩ := HK3.out.2 2 _ rfl
      go_wp2_with fail
      have RB := ((HK3.out.set 0 (.slice none 0 0)).set 1 (.slice none 0 0)).set 2 (.int .i64 0)
      have f0 := (RB.2 0 _ rfl).1
      have f1 := (RB.2 1 _ rfl).1
      have f2 := (RB.2 2 _ rfl).1
      refine bodyPost_ret (v := .tuple #[.agg #[.slice none 0 0, .slice none 0 0, .int .i64 0], .bool false]) (by simp [results, Tryz.results53, go_sem, f0, f1, f2]) rfl ?_
      refine postO_none HN.out rfl ?_
      iterate 3 refine Below.setCell ?_ (by simp) _
      exact HB3.out
    | some x =>
    subst ho
    obtain ⟨L', H', q'⟩ := x
    obtain ⟨A5, n5, k5, A6, n6, k6, rs', KS, HS3, HR3, HD3⟩ := HX.out _ rfl
    simp only at KS HS3 HR3 HD3
    have CV := hid (implValidTreeX_c (HS3.at_ HR3 HD3) (Nat.le_refl _))
    have g0 := (KS.2 0 _ rfl).1
    have g1 := (KS.2 1 _ rfl).1
    have g2 := (KS.2 2 _ rfl).1
    have HKS := hid KS
    have HS4 := hid HS3
    have HR4 := hid HR3
    clear KS HS3 HR3 HD3
    cases hy : treeOk L' H' q' with
    | false =>
      rw [hy] at CV
      have HN := hid (show changedO L H q (some (L', H', q')) = none by rw [HE.out]; show ifOk L' H' q' = none; unfold ifOk; rw [hy]; rfl)
      clear hy
      go_wp2_with fail
      refine (CV.out).mono ?_
      rintro e w4 ⟨rfl, hb4⟩
      have HB4 := hid (HB3.out.trans (hb4.mono HB3.out.size))
      have HK4 := hid (HK3.out.to hb4)
      obtain ⟨q0c, q0f⟩ := HK4.out.2 0 _ rfl
      obtain ⟨q1c, q1f⟩ := HK4.out.2 1 _ rfl
      obtain ⟨q2c, q2f⟩ := HK4.out.2 2 _ rfl
      clear hb4 g0 g1 g2
      go_wp2_with fail
      have RB := ((HK4.out.set 0 (.slice none 0 0)).set 1 (.slice none 0 0)).set 2 (.int .i64 0)
      have f0 := (RB.2 0 _ rfl).1
      have f1 := (RB.2 1 _ rfl).1
      have f2 := (RB.2 2 _ rfl).1
      refine bodyPost_ret (v := .tuple #[.agg #[.slice none 0 0, .slice none 0 0, .int .i64 0], .bool false]) (by simp [results, Tryz.results53, go_sem, f0, f1, f2]) rfl ?_
      refine postO_none HN.out rfl ?_
      iterate 3 refine Below.setCell ?_ (by simp) _
      exact HB4.out
    | true =>
      rw [hy] at CV
      have HN := hid (show changedO L H q (some (L', H', q')) = some (L', H', q') by rw [HE.out]; show ifOk L' H' q' = _; unfold ifOk; rw [hy]; rfl)
      clear hy
      go_wp2_with fail
      refine (CV.out).mono ?_
      rintro e w4 ⟨rfl, hb4⟩
      have HB4 := hid (HB3.out.trans (hb4.mono HB3.out.size))
      have HK4 := hid (HK3.out.to hb4)
      have HR5 := hid (HR4.out.below hb4)
      have KS4 := HKS.out.to hb4
      have g0 := (KS4.2 0 _ rfl).1
      have g1 := (KS4.2 1 _ rfl).1
      have g2 := (KS4.2 2 _ rfl).1
      obtain ⟨q0c, q0f⟩ := HK4.out.2 0 _ rfl
      obtain ⟨q1c, q1f⟩ := HK4.out.2 1 _ rfl
      obtain ⟨q2c, q2f⟩ := HK4.out.2 2 _ rfl
      clear hb4 KS4
      go_wp2_with fail
      have RB := ((HK4.out.set 0 (.slice A5 n5 k5)).set 1 (.slice A6 n6 k6)).set 2 (.int .i64 q')
      have f0 := (RB.2 0 _ rfl).1
      have f1 := (RB.2 1 _ rfl).1
      have f2 := (RB.2 2 _ rfl).1
      refine bodyPost_ret (v := .tuple #[.agg #[.slice A5 n5 k5, .slice A6 n6 k6, .int .i64 q'], .bool true]) (by simp [results, Tryz.results53, go_sem, f0, f1, f2]) rfl ?_
      rw [show changedO L H q (some (L', H', q')) = some (L', H', q') from HN.out]
      refine ⟨_, rs', rfl, HS4.out, ?_, ?_⟩
      · refine Rows.base ?_ hww1
        iterate 3 refine Rows.low ?_ (by omega)
        exact HR5.out
      · iterate 3 refine Below.setCell ?_ (by simp) _
        exact HB4.out
end Go.Proofs.YtioegkcekbkblaaGreat
