/-
  RECORDS SENT: the program's RunRecords. By gen_sn5.py.
-/
import Derived.Test.YteekkccgdkmjoaaGreatSN4
import Derived.Test.YteekkccgdkmjoaaGreatR3
namespace Go.Proofs.YteekkccgdkmjoaaGreat
open Go.RowKit Go.Proofs.YteekkccgdkmjoaaGreat.Nm
set_option linter.unusedSimpArgs false
set_option linter.unusedVariables false

theorem sendX_len (L : List Lgr) (H : List Hnd) (q : Int) (r : Rec) : (sendX L H q r).length ≤ 30 := Nat.le_trans (sentOf_len _ _ _ _) (ocX_len _ _ _ _)
def runX (L : List Lgr) (H : List Hnd) (q : Int) (rs : List Rec) : List Snt := if recsOk rs then rs.flatMap (sendX L H q) else []
theorem run_len (L : List Lgr) (H : List Hnd) (q : Int) (rs : List Rec) : (rs.flatMap (sendX L H q)).length ≤ 30 * rs.length := by
  induction rs with
  | nil => simp
  | cons r t ih => rw [List.flatMap_cons, List.length_append, List.length_cons]; have := sendX_len L H q r; omega
theorem run_step {f : Rec → List Snt} {rs : List Rec} {k : Nat} {r : Rec} (h : rs[k]? = some r) : (rs.take (k + 1)).flatMap f = (rs.take k).flatMap f ++ f r := by
  rw [List.take_add_one, h, Option.toList_some, List.flatMap_append]; simp
theorem recsOk_len {l : List Rec} (h : recsOk l = true) : l.length ≤ 12 := by
  unfold recsOk at h; simp only [Bool.and_eq_true, decide_eq_true_eq] at h; omega
set_option maxHeartbeats 8000000 in
set_option maxRecDepth 100000 in
theorem implRunRecords_c {w : World} {B : Nat} {v v2 : Value} {n : Nat} {L : List Lgr} {H : List Hnd} {q : Int} {rs : List Rec} (h : TreeIn w B v L H q) (hr : Rs w B n v2 rs) (hB : B ≤ w.heap.size) :
    Calls Tryz.prog 25 #[v, v2] w (RowPost w 69 6 (runX L H q rs).length ((runX L H q rs).flatMap sncells)) := by
  have CS := hid (fun (nm tx : ByteArray) (lv sq : Int) (hnm : nm.size ≤ 1048576) (htx : tx.size ≤ 1048576) (W : World) (hW : Below w.heap.size w W) => implSendRecord_c nm tx lv sq (h.below hW hB) (Nat.le_trans hB hW.size) hnm htx)
  have CV := fun (W : World) (hW : Below w.heap.size w W) => implValidRecords_c v2 n B rs W (hr.below hW hB) (Nat.le_trans hB hW.size)
  have hln := hr.count
  obtain ⟨A1, n1, k1, A2, n2, k2, rfl⟩ := h.form
  obtain ⟨A, c, rfl, hnc, hcm⟩ := hr.1.form
  unfold maxLen at hcm
  have HB0 := hid (show Below w.heap.size w (w.alloc (.cells #[.slice A1 n1 k1, .slice A2 n2 k2, .int .i64 q] 35)) by go_grown)
  have HT0 := hid (Blk.new w #[.slice A1 n1 k1, .slice A2 n2 k2, .int .i64 q] 35)
  have HV := hid (And.intro hr hln)
  cases hz : recsOk rs with
  | false =>
    rw [hz] at CV
    replace CV := hid CV
    have HE := hid (show runX L H q rs = [] by unfold runX; rw [hz]; rfl)
    clear h hr hln hz
    go_enter Tryz.func25, Tryz.ntmps25
    go_wp2_with fail
    refine (CV.out _ HB0.out).mono ?_
    rintro e w1 ⟨rfl, hb⟩
    have HB1 := hid (HB0.out.trans (hb.mono HB0.out.size))
    clear hb
    go_wp2_with fail
    go_ret
    exact ⟨_, rfl, by rw [HE.out]; exact World.ownsRow_nil _ _ _ _, HB1.out⟩
  | true =>
    rw [hz] at CV
    replace CV := hid CV
    have HE := hid (show runX L H q rs = rs.flatMap (sendX L H q) by unfold runX; rw [hz]; rfl)
    have hn12 : n ≤ 12 := by have := recsOk_len hz; omega
    clear h hr hln hz
    generalize runX L H q rs = Y at HE ⊢
    go_enter Tryz.func25, Tryz.ntmps25
    go_wp2_with fail
    refine (CV.out _ HB0.out).mono ?_
    rintro e w1 ⟨rfl, hb⟩
    have HB1 := hid (HB0.out.trans (hb.mono HB0.out.size))
    have HT1 := hid (HT0.out.to hb)
    clear hb HB0 HT0
    go_wp2_with fail
    go_loopw [5, 13] (fun ov iv wr => ∃ (k : Nat) (x : List Snt), iv = .int .i64 k ∧ k ≤ n ∧ Hid (x = (rs.take k).flatMap (sendX L H q)) ∧ x.length ≤ 30 * k ∧ Hid (wr.ownsRow w1.heap.size 69 6 ov x.length (x.flatMap sncells)) ∧ Hid (Below w1.heap.size w1 wr)) (fun _ iv _ => n - (intOf iv).toNat)
    case atStart => exact ⟨0, [], rfl, by omega, rfl, by simp, World.ownsRow_nil _ _ _ _, Below.refl _ _⟩
    case round =>
      obtain ⟨k, x, rfl, hk, HX, hxl, HOW, HB⟩ := hrel
      obtain ⟨Ax, cx, rfl, -, -⟩ := (Sl.of_own HOW.out).form
      by_cases hlt : k < n
      · have HBw := hid (HB1.out.trans (HB.out.mono HB1.out.size))
        obtain ⟨b, o, nm, lv, tx, sq, rfl, hbB, hx, c0, c1, c2, c3⟩ := rcells_at (HV.out.1.1.below HBw.out hB) hlt
        have hfit := rcells_fit HV.out.1.2 hx
        unfold maxTxt at hfit
        have HXX := hid (run_step (f := sendX L H q) hx)
        have hbr : b < wr.heap.size := Nat.lt_of_lt_of_le hbB (Nat.le_trans hB HBw.out.size)
        have hls := HB.out.size
        have HTw := hid (HT1.out.to HB.out)
        have hwl : w.heap.size < wr.heap.size := HTw.out.1
        have t0 := (HTw.out.2 0 _ rfl).1
        have t1 := (HTw.out.2 1 _ rfl).1
        have t2 := (HTw.out.2 2 _ rfl).1
        have hcall := hid (CS.out nm tx lv sq hfit.1 hfit.2)
        have HBa := hid (HB.out.alloc HB.out.size (.cells #[.string nm, .int .i64 lv, .string tx, .int .i64 sq] 37))
        have HBb := hid (HBw.out.alloc HBw.out.size (.cells #[.string nm, .int .i64 lv, .string tx, .int .i64 sq] 37))
        have HOa := hid (HOW.out.alloc (.cells #[.string nm, .int .i64 lv, .string tx, .int .i64 sq] 37))
        have hsl := sendX_len L H q ⟨nm.data.toList, lv, tx.data.toList, sq⟩
        clear hx hfit
        go_wp2_with fail
        refine (hcall.out _ HBb.out).mono ?_
        rintro e w2 ⟨vS, rfl, hoS, hb⟩
        have HB2 := hid (HBa.out.trans (hb.mono HBa.out.size))
        have HO2 := hid (own_below HOa.out hb)
        have HS2 := hid (Sl.of_own hoS)
        have hl2 := HB2.out.size
        clear hb hoS t0 t1 t2 c0 c1 c2 c3
        generalize sendX L H q ⟨nm.data.toList, lv, tx.data.toList, sq⟩ = y at *
        go_wp2_with (at_builtin; refine Classical.byContradiction (fun hgoal => ?_))
        refine hgoal (appSentS _ rfl (.tmp 17) (.tmp 20) rfl w1.heap.size _ x y (by rfl) HO2.out w2.heap.size _ (by rfl) HS2.out (by omega) hl2 ?_)
        intro v9 w9 ho9 hb9
        have HO9 := hid ho9
        have HB9 := hid (HB2.out.trans hb9)
        clear ho9 hb9
        go_wp2_with fail
        go_roundw
        case rel => exact ⟨k + 1, _, by go_num, by omega, (by show _ = _; rw [HXX.out, HX.out]), by rw [List.length_append]; omega, HO9.out, HB9.out⟩
        case measure => simp [intOf]; omega
      · have HF := hid (show Y = x by rw [HE.out, HX.out, List.take_of_length_le (by have := HV.out.2; omega)])
        go_wp2_with fail
        go_ret
        exact ⟨_, rfl, by rw [HF.out]; exact own_base HOW.out HB1.out.size, HB1.out.trans (HB.out.mono HB1.out.size)⟩
end Go.Proofs.YteekkccgdkmjoaaGreat

