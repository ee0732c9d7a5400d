/-
  SN4, SN5, SN6 laid together.
-/
import Derived.Test.YtlifaeleoiodkaaGreatDoorSN3
import Derived.Test.YtlifaeleoiodkaaGreatDoorUM
import Derived.Test.YtlifaeleoiodkaaGreatDoorLookS
import Derived.Test.YtlifaeleoiodkaaGreatDoorFRM
/-
  RECORDS SENT: the program's SendRecord, ExplainRecord, RunRecords. By gen_sn4.py.
-/
namespace Go.Proofs.YtlifaeleoiodkaaGreatDoor
open Go.RowKit Go.Proofs.YtlifaeleoiodkaaGreatDoor.Nm
set_option linter.unusedSimpArgs false
set_option linter.unusedVariables false

theorem spotsI_max {L : List Lgr} {H : List Hnd} {q : Int} {x : Name} (h1 : treeOk L H q = true) (h2 : nameOk x = true) : (spotsI L (pathN (nsOf L) x)).length ≤ 30 := by
  have h9 := spotsT_len L H q x
  rwa [show spotsT L H q x = spotsI L (pathN (nsOf L) x) by unfold spotsT; rw [h1, h2]; rfl] at h9
theorem ocX_len (L : List Lgr) (H : List Hnd) (q : Int) (r : Rec) : (ocX L H q r).length ≤ 30 := by
  unfold ocX
  split
  · rename_i h
    simp only [Bool.and_eq_true] at h
    split
    · rw [outs_len]; unfold spX; split
      · simp
      · exact spotsI_max h.1 (recOk_rng h.2).2.2
    · simp
  · simp
theorem occells_at {w : World} {B n c : Nat} {A : Option Addr} {nm tx : ByteArray} {sq : Int} {l : List Oc} (h : Sl w B 7 n (.slice A n c) (l.flatMap (occells nm.data.toList tx.data.toList sq))) {k : Nat} (hk : k < n) :
    ∃ (b o : Nat) (lg hd : ByteArray) (kd lv : Int), A = some ⟨b, o, none⟩ ∧ b < B ∧ l[k]? = some ⟨lg.data.toList, hd.data.toList, kd, lv⟩ ∧ w.cell? ⟨b, o + k * 7, none⟩ = some (.string lg) ∧ w.cell? ⟨b, o + k * 7 + 1, none⟩ = some (.string hd) ∧ w.cell? ⟨b, o + k * 7 + 2, none⟩ = some (.int .i64 kd) ∧ w.cell? ⟨b, o + k * 7 + 3, none⟩ = some (.string nm) ∧ w.cell? ⟨b, o + k * 7 + 4, none⟩ = some (.int .i64 lv) ∧ w.cell? ⟨b, o + k * 7 + 5, none⟩ = some (.string tx) ∧ w.cell? ⟨b, o + k * 7 + 6, none⟩ = some (.int .i64 sq) := by
  obtain ⟨b, o, x, e, hb, hx, hc⟩ := Sl.elem (occells_len _ _ _) h (by omega) hk
  obtain ⟨lg, hd, kd, lv⟩ := x
  refine ⟨b, o, ⟨lg.toArray⟩, ⟨hd.toArray⟩, kd, lv, e, hb, by simpa using hx, hc 0 _ rfl, hc 1 _ rfl, hc 2 _ rfl, ?_, hc 4 _ rfl, ?_, hc 6 _ rfl⟩
  · have := hc 3 _ rfl; rwa [txt_data] at this
  · have := hc 5 _ rfl; rwa [txt_data] at this
theorem sentOf_step {nm tx : List UInt8} {sq : Int} {X : List Oc} {k : Nat} {o : Oc} (h : X[k]? = some o) : sentOf nm tx sq (X.take (k + 1)) = sentOf nm tx sq (X.take k) ++ (if o.kd = 0 then [sent1 nm tx sq o] else []) := by
  rw [List.take_add_one, h, Option.toList_some, sentOf_app]
  congr 1
  unfold sentOf
  by_cases e : o.kd = 0 <;> simp [e]
theorem whyOf_step {X : List Oc} {k : Nat} {o : Oc} (h : X[k]? = some o) : whyOf (X.take (k + 1)) = whyOf (X.take k) ++ [⟨o.kd, o.lg, o.hd⟩] := by
  rw [List.take_add_one, h, Option.toList_some, whyOf_app]; rfl

set_option maxHeartbeats 8000000 in
set_option maxRecDepth 100000 in
theorem implSendRecord_c {w : World} {B : Nat} {v : Value} {L : List Lgr} {H : List Hnd} {q : Int} (nm tx : ByteArray) (lv sq : Int) (h : TreeIn w B v L H q) (hB : B ≤ w.heap.size) (hnm : nm.size ≤ 1048576) (htx : tx.size ≤ 1048576) :
    Calls Tryz.prog 61 #[v, .agg #[.string nm, .int .i64 lv, .string tx, .int .i64 sq]] w (RowPost w 83 6 (sendX L H q ⟨nm.data.toList, lv, tx.data.toList, sq⟩).length ((sendX L H q ⟨nm.data.toList, lv, tx.data.toList, sq⟩).flatMap sncells)) := by
  have CO := hid (fun (W : World) (hW : Below w.heap.size w W) => outcomesOf_c nm tx lv sq (h.below hW hB) (Nat.le_trans hB hW.size) hnm htx)
  obtain ⟨A1, n1, k1, A2, n2, k2, rfl⟩ := h.form
  have HL := hid (ocX_len L H q ⟨nm.data.toList, lv, tx.data.toList, sq⟩)
  have HX := hid (show sendX L H q ⟨nm.data.toList, lv, tx.data.toList, sq⟩ = sentOf nm.data.toList tx.data.toList sq (ocX L H q ⟨nm.data.toList, lv, tx.data.toList, sq⟩) from rfl)
  have HB0 := hid (show Below w.heap.size w ((w.alloc (.cells #[.slice A1 n1 k1, .slice A2 n2 k2, .int .i64 q] 36)).alloc (.cells #[.string nm, .int .i64 lv, .string tx, .int .i64 sq] 61)) by go_grown)
  generalize sendX L H q ⟨nm.data.toList, lv, tx.data.toList, sq⟩ = Y at HX ⊢
  unfold OcPost at CO
  generalize ocX L H q ⟨nm.data.toList, lv, tx.data.toList, sq⟩ = X at HX HL CO
  generalize hn : X.length = n at *
  have HN := hid hn
  have hn30 : n ≤ 30 := HL.out
  clear h hn
  go_enter Tryz.func61, Tryz.ntmps61
  go_wp2_with fail
  refine (CO.out _ HB0.out).mono ?_
  rintro e w1 ⟨vO, rfl, hO, hb⟩
  obtain ⟨AO, cO, rfl, hnc, hcO⟩ := (Sl.of_own hO).form
  unfold maxLen at hcO
  have HB1 := hid (HB0.out.trans (hb.mono HB0.out.size))
  have HO := hid (Sl.of_own hO)
  clear hb hO HB0
  go_wp2_with fail
  go_loopw [5, 12] (fun ov iv wr => ∃ (k : Nat) (x : List Snt), iv = .int .i64 k ∧ k ≤ n ∧ Hid (x = sentOf nm.data.toList tx.data.toList sq (X.take k)) ∧ x.length ≤ k ∧ Hid (wr.ownsRow w1.heap.size 83 6 ov x.length (x.flatMap sncells)) ∧ Hid (Below w1.heap.size w1 wr)) (fun _ iv _ => n - (intOf iv).toNat)
  case atStart => exact ⟨0, [], rfl, by omega, rfl, by simp, World.ownsRow_nil _ _ _ _, Below.refl _ _⟩
  case round =>
    obtain ⟨k, x, rfl, hk, HXk, hxl, HOW, HB⟩ := hrel
    obtain ⟨Ax, cx, rfl, -, -⟩ := (Sl.of_own HOW.out).form
    by_cases hlt : k < n
    · obtain ⟨b, o, lg, hd, kd, g, rfl, hbB, hx, c0, c1, c2, c3, c4, c5, c6⟩ := occells_at (HO.out.below HB.out (Nat.le_refl _)) hlt
      have hbr : b < wr.heap.size := Nat.lt_of_lt_of_le hbB HB.out.size
      have HXX := hid hx
      have hls := HB.out.size
      clear hx
      by_cases hkd : kd = 0
      · subst hkd
        have HST := hid (sentOf_step (nm := nm.data.toList) (tx := tx.data.toList) (sq := sq) HXX.out)
        have HBa := hid (HB.out.alloc HB.out.size (.cells #[.string lg, .string hd, .int .i64 0, .string nm, .int .i64 g, .string tx, .int .i64 sq] 156))
        have HOa := hid (HOW.out.alloc (.cells #[.string lg, .string hd, .int .i64 0, .string nm, .int .i64 g, .string tx, .int .i64 sq] 156))
        have hla := HBa.out.size
        go_wp2_with (at_builtin; refine Classical.byContradiction (fun hgoal => ?_))
        refine hgoal (appSent _ rfl (.tmp 19) (.tmp 29) rfl w1.heap.size _ x (by rfl) HOa.out lg hd nm g tx sq _ _ _ (by rfl) (by first | rfl | simp) (by omega) hla ?_)
        intro v9 w9 ho9 hb9
        have HO9 := hid ho9
        have HB9 := hid (HBa.out.trans hb9)
        clear ho9 hb9
        go_wp2_with fail
        go_roundw
        case rel => exact ⟨k + 1, _, by go_num, by omega, (by show _ = _; rw [HST.out, HXk.out]; rfl), by rw [List.length_append]; show x.length + 1 ≤ _; omega, HO9.out, HB9.out⟩
        case measure => simp [intOf]; omega
      · have q0 : (kd == 0) = false := by simpa using hkd
        have HST := hid (show sentOf nm.data.toList tx.data.toList sq (X.take (k + 1)) = sentOf nm.data.toList tx.data.toList sq (X.take k) by rw [sentOf_step HXX.out, if_neg hkd, List.append_nil])
        clear hkd
        go_wp2_with fail
        go_roundw
        case rel => exact ⟨k + 1, x, by go_num, by omega, (by show _ = _; rw [HST.out, HXk.out]), by omega, HOW.out.alloc _, HB.out.alloc HB.out.size _⟩
        case measure => simp [intOf]; omega
    · have HF := hid (show Y = x by rw [HX.out, HXk.out, List.take_of_length_le (by have := HN.out; omega)])
      go_wp2_with fail
      go_ret
      exact ⟨_, rfl, by rw [HF.out]; exact own_base HOW.out HB1.out.size, HB1.out.trans (HB.out.mono HB1.out.size)⟩

end Go.Proofs.YtlifaeleoiodkaaGreatDoor

/-
  RECORDS SENT: the program's RunRecords. By gen_sn5.py.
-/
namespace Go.Proofs.YtlifaeleoiodkaaGreatDoor
open Go.RowKit Go.Proofs.YtlifaeleoiodkaaGreatDoor.Nm
set_option linter.unusedSimpArgs false
set_option linter.unusedVariables false

theorem sendX_len (L : List Lgr) (H : List Hnd) (q : Int) (r : Rec) : (sendX L H q r).length ≤ 30 := Nat.le_trans (sentOf_len _ _ _ _) (ocX_len _ _ _ _)
def runX (L : List Lgr) (H : List Hnd) (q : Int) (rs : List Rec) : List Snt := if recsOk rs then rs.flatMap (sendX L H q) else []
theorem run_len (L : List Lgr) (H : List Hnd) (q : Int) (rs : List Rec) : (rs.flatMap (sendX L H q)).length ≤ 30 * rs.length := by
  induction rs with
  | nil => simp
  | cons r t ih => rw [List.flatMap_cons, List.length_append, List.length_cons]; have := sendX_len L H q r; omega
theorem run_step {f : Rec → List Snt} {rs : List Rec} {k : Nat} {r : Rec} (h : rs[k]? = some r) : (rs.take (k + 1)).flatMap f = (rs.take k).flatMap f ++ f r := by
  rw [List.take_add_one, h, Option.toList_some, List.flatMap_append]; simp
theorem recsOk_len {l : List Rec} (h : recsOk l = true) : l.length ≤ 12 := by
  unfold recsOk at h; simp only [Bool.and_eq_true, decide_eq_true_eq] at h; omega
set_option maxHeartbeats 8000000 in
set_option maxRecDepth 100000 in
theorem implRunRecords_c {w : World} {B : Nat} {v v2 : Value} {n : Nat} {L : List Lgr} {H : List Hnd} {q : Int} {rs : List Rec} (h : TreeIn w B v L H q) (hr : Rs w B n v2 rs) (hB : B ≤ w.heap.size) :
    Calls Tryz.prog 27 #[v, v2] w (RowPost w 83 6 (runX L H q rs).length ((runX L H q rs).flatMap sncells)) := by
  have CS := hid (fun (nm tx : ByteArray) (lv sq : Int) (hnm : nm.size ≤ 1048576) (htx : tx.size ≤ 1048576) (W : World) (hW : Below w.heap.size w W) => implSendRecord_c nm tx lv sq (h.below hW hB) (Nat.le_trans hB hW.size) hnm htx)
  have CV := fun (W : World) (hW : Below w.heap.size w W) => implValidRecords_c v2 n B rs W (hr.below hW hB) (Nat.le_trans hB hW.size)
  have hln := hr.count
  obtain ⟨A1, n1, k1, A2, n2, k2, rfl⟩ := h.form
  obtain ⟨A, c, rfl, hnc, hcm⟩ := hr.1.form
  unfold maxLen at hcm
  have HB0 := hid (show Below w.heap.size w (w.alloc (.cells #[.slice A1 n1 k1, .slice A2 n2 k2, .int .i64 q] 36)) by go_grown)
  have HT0 := hid (Blk.new w #[.slice A1 n1 k1, .slice A2 n2 k2, .int .i64 q] 36)
  have HV := hid (And.intro hr hln)
  cases hz : recsOk rs with
  | false =>
    rw [hz] at CV
    replace CV := hid CV
    have HE := hid (show runX L H q rs = [] by unfold runX; rw [hz]; rfl)
    clear h hr hln hz
    go_enter Tryz.func27, Tryz.ntmps27
    go_wp2_with fail
    refine (CV.out _ HB0.out).mono ?_
    rintro e w1 ⟨rfl, hb⟩
    have HB1 := hid (HB0.out.trans (hb.mono HB0.out.size))
    clear hb
    go_wp2_with fail
    go_ret
    exact ⟨_, rfl, by rw [HE.out]; exact World.ownsRow_nil _ _ _ _, HB1.out⟩
  | true =>
    rw [hz] at CV
    replace CV := hid CV
    have HE := hid (show runX L H q rs = rs.flatMap (sendX L H q) by unfold runX; rw [hz]; rfl)
    have hn12 : n ≤ 12 := by have := recsOk_len hz; omega
    clear h hr hln hz
    generalize runX L H q rs = Y at HE ⊢
    go_enter Tryz.func27, Tryz.ntmps27
    go_wp2_with fail
    refine (CV.out _ HB0.out).mono ?_
    rintro e w1 ⟨rfl, hb⟩
    have HB1 := hid (HB0.out.trans (hb.mono HB0.out.size))
    have HT1 := hid (HT0.out.to hb)
    clear hb HB0 HT0
    go_wp2_with fail
    go_loopw [5, 13] (fun ov iv wr => ∃ (k : Nat) (x : List Snt), iv = .int .i64 k ∧ k ≤ n ∧ Hid (x = (rs.take k).flatMap (sendX L H q)) ∧ x.length ≤ 30 * k ∧ Hid (wr.ownsRow w1.heap.size 83 6 ov x.length (x.flatMap sncells)) ∧ Hid (Below w1.heap.size w1 wr)) (fun _ iv _ => n - (intOf iv).toNat)
    case atStart => exact ⟨0, [], rfl, by omega, rfl, by simp, World.ownsRow_nil _ _ _ _, Below.refl _ _⟩
    case round =>
      obtain ⟨k, x, rfl, hk, HX, hxl, HOW, HB⟩ := hrel
      obtain ⟨Ax, cx, rfl, -, -⟩ := (Sl.of_own HOW.out).form
      by_cases hlt : k < n
      · have HBw := hid (HB1.out.trans (HB.out.mono HB1.out.size))
        obtain ⟨b, o, nm, lv, tx, sq, rfl, hbB, hx, c0, c1, c2, c3⟩ := rcells_at (HV.out.1.1.below HBw.out hB) hlt
        have hfit := rcells_fit HV.out.1.2 hx
        unfold maxTxt at hfit
        have HXX := hid (run_step (f := sendX L H q) hx)
        have hbr : b < wr.heap.size := Nat.lt_of_lt_of_le hbB (Nat.le_trans hB HBw.out.size)
        have hls := HB.out.size
        have HTw := hid (HT1.out.to HB.out)
        have hwl : w.heap.size < wr.heap.size := HTw.out.1
        have t0 := (HTw.out.2 0 _ rfl).1
        have t1 := (HTw.out.2 1 _ rfl).1
        have t2 := (HTw.out.2 2 _ rfl).1
        have hcall := hid (CS.out nm tx lv sq hfit.1 hfit.2)
        have HBa := hid (HB.out.alloc HB.out.size (.cells #[.string nm, .int .i64 lv, .string tx, .int .i64 sq] 61))
        have HBb := hid (HBw.out.alloc HBw.out.size (.cells #[.string nm, .int .i64 lv, .string tx, .int .i64 sq] 61))
        have HOa := hid (HOW.out.alloc (.cells #[.string nm, .int .i64 lv, .string tx, .int .i64 sq] 61))
        have hsl := sendX_len L H q ⟨nm.data.toList, lv, tx.data.toList, sq⟩
        clear hx hfit
        go_wp2_with fail
        refine (hcall.out _ HBb.out).mono ?_
        rintro e w2 ⟨vS, rfl, hoS, hb⟩
        have HB2 := hid (HBa.out.trans (hb.mono HBa.out.size))
        have HO2 := hid (own_below HOa.out hb)
        have HS2 := hid (Sl.of_own hoS)
        have hl2 := HB2.out.size
        clear hb hoS t0 t1 t2 c0 c1 c2 c3
        generalize sendX L H q ⟨nm.data.toList, lv, tx.data.toList, sq⟩ = y at *
        go_wp2_with (at_builtin; refine Classical.byContradiction (fun hgoal => ?_))
        refine hgoal (appSentS _ rfl (.tmp 17) (.tmp 20) rfl w1.heap.size _ x y (by rfl) HO2.out w2.heap.size _ (by rfl) HS2.out (by omega) hl2 ?_)
        intro v9 w9 ho9 hb9
        have HO9 := hid ho9
        have HB9 := hid (HB2.out.trans hb9)
        clear ho9 hb9
        go_wp2_with fail
        go_roundw
        case rel => exact ⟨k + 1, _, by go_num, by omega, (by show _ = _; rw [HXX.out, HX.out]), by rw [List.length_append]; omega, HO9.out, HB9.out⟩
        case measure => simp [intOf]; omega
      · have HF := hid (show Y = x by rw [HE.out, HX.out, List.take_of_length_le (by have := HV.out.2; omega)])
        go_wp2_with fail
        go_ret
        exact ⟨_, rfl, by rw [HF.out]; exact own_base HOW.out HB1.out.size, HB1.out.trans (HB.out.mono HB1.out.size)⟩
end Go.Proofs.YtlifaeleoiodkaaGreatDoor


/-
  RECORDS SENT: the model: plain facts, ownFilters.
-/
namespace Go.Proofs.YtlifaeleoiodkaaGreatDoor
open Go.RowKit Go.Proofs.YtlifaeleoiodkaaGreatDoor.Nm
set_option linter.unusedSimpArgs false
set_option linter.unusedVariables false

theorem en_parts {L : List Lgr} {q : Int} {x : List UInt8} {lv : Int} (h : enabledT L q x lv = true) : offT L x = false ∧ ¬ lv ≤ q ∧ ¬ lv < levelN (nsOf L) (lvAt L) x := by
  have e : enabledT L q x lv = (!offT L x && (decide (q < lv) && decide (levelN (nsOf L) (lvAt L) x ≤ lv))) := rfl
  rw [e] at h
  simp only [Bool.and_eq_true, Bool.not_eq_true', decide_eq_true_eq] at h
  exact ⟨h.1, by omega, by omega⟩
theorem ent_dis {L : List Lgr} {q : Int} {nm tx : List UInt8} {lv : Int} (h : enabledT L q nm lv = false) : (entX L q nm tx lv).1 ≠ 0 := by
  have e : enabledT L q nm lv = (!offT L nm && (decide (q < lv) && decide (levelN (nsOf L) (lvAt L) nm ≤ lv))) := rfl
  unfold entX
  by_cases h1 : offT L nm = true
  · rw [if_pos h1]; show (1 : Int) ≠ 0; decide
  · rw [if_neg h1]
    by_cases h2 : lv ≤ q
    · rw [if_pos h2]; show (2 : Int) ≠ 0; decide
    · rw [if_neg h2]
      by_cases h3 : lv < levelN (nsOf L) (lvAt L) nm
      · rw [if_pos h3]; show (3 : Int) ≠ 0; decide
      · exfalso
        rw [e] at h
        have a1 : offT L nm = false := by simpa using h1
        rw [a1, decide_eq_true (by omega), decide_eq_true (by omega)] at h
        cases h
theorem sentOf_bad (nm tx : List UInt8) (sq : Int) {kd lv : Int} (h : kd ≠ 0) (a b : List UInt8) : sentOf nm tx sq [⟨a, b, kd, lv⟩] = [] := by unfold sentOf; simp [h]
theorem sendX_bad {L : List Lgr} {H : List Hnd} {q : Int} {r : Rec} (h : (entX L q r.nm r.tx r.lv).1 ≠ 0) : sendX L H q r = [] := by
  unfold sendX ocX
  split
  · first | exact sentOf_bad _ _ _ h _ _ | (rw [if_neg h]; exact sentOf_bad _ _ _ h _ _)
  · rfl
theorem sendX_ok {L : List Lgr} {H : List Hnd} {q : Int} {r : Rec} {g : Int} (ht : treeOk L H q = true) (hr : recOk r = true) (h : entX L q r.nm r.tx r.lv = (0, g)) : sendX L H q r = sentOf r.nm r.tx r.sq (outs H r.nm r.tx (spX L r.nm) g) := by
  unfold sendX ocX; rw [ht, hr, h]; rfl
theorem sent_last {H : List Hnd} (hl : ∀ y ∈ H, y.nm ≠ lastL) (nm tx : List UInt8) (sq g : Int) : sentOf nm tx sq (outs H nm tx [⟨[], lastL⟩] g) = if 30 ≤ g then [⟨[], lastL, ⟨nm, g, tx, sq⟩⟩] else [] := by
  have hO : hOf H lastL = lastH := hOf_miss hl
  have e : outs H nm tx [⟨[], lastL⟩] g = [⟨[], lastL, (askH nm tx lastH g).1, (askH nm tx lastH g).2⟩] := by simp only [outs, hO]
  rw [e]
  by_cases h : (30 : Int) ≤ g
  · rw [if_pos h, askH_sent (q := g) (by unfold lastH; show ¬ g < 30; omega) (by unfold lastH; rfl)]; rfl
  · rw [if_neg h, askH_low (by unfold lastH; show g < 30; omega)]; rfl
theorem sent_step {H : List Hnd} {nm tx : List UInt8} {sq g q : Int} {ss : List Spt} {k : Nat} {s : Spt} (hx : ss[k]? = some s) (hq : lvAfter H nm tx (ss.take k) g = q) :
    sentOf nm tx sq (outs H nm tx (ss.take (k + 1)) g) = sentOf nm tx sq (outs H nm tx (ss.take k) g) ++ (if (askH nm tx (hOf H s.hd) q).1 = 0 then [⟨s.lg, s.hd, ⟨nm, (askH nm tx (hOf H s.hd) q).2, tx, sq⟩⟩] else []) ∧ lvAfter H nm tx (ss.take (k + 1)) g = (askH nm tx (hOf H s.hd) q).2 := by
  obtain ⟨e1, e2⟩ := outs_step (H := H) (nm := nm) (tx := tx) (lv := g) hx hq
  refine ⟨?_, e2⟩
  rw [e1, sentOf_app]
  congr 1
  unfold sentOf
  by_cases e : (askH nm tx (hOf H s.hd) q).1 = 0 <;> simp [e, sent1]
/-- the handler of a spot: where it lies -/
theorem hand_idx {H : List Hnd} {hs : List HndV} (hH : hsOf hs = H) (hn : (H.map (·.nm)).Nodup) {x : List UInt8} (hx : hasL H x = true) : ∃ j, j < hs.length ∧ idxL (hnames hs) x = ((j : Nat) : Int) ∧ H[j]? = some (hOf H x) ∧ (hOf H x).nm = x := by
  unfold hasL at hx
  obtain ⟨y, hy, e⟩ := List.any_eq_true.1 hx
  have ey : y.nm = x := by simpa using e
  have hns : hnames hs = H.map (·.nm) := by rw [← hH]; simp [hnames, hsOf]
  have hm : x ∈ hnames hs := by rw [hns]; exact List.mem_map.2 ⟨y, hy, ey⟩
  have hl := List.idxOf_lt_length_of_mem hm
  have hlen : (hnames hs).length = hs.length := by simp [hnames]
  have hlH : H.length = hs.length := by rw [← hH]; simp [hsOf]
  have hj : (hnames hs).idxOf x < H.length := by omega
  have he : H[(hnames hs).idxOf x].nm = x := by
    have h1 : (hnames hs)[(hnames hs).idxOf x]'hl = x := List.getElem_idxOf hl
    have h2 : (hnames hs)[(hnames hs).idxOf x]? = some x := by rw [List.getElem?_eq_getElem hl, h1]
    rw [hns, List.getElem?_map, ← hns, List.getElem?_eq_getElem hj] at h2
    simpa using h2
  have hg : H[(hnames hs).idxOf x]? = some H[(hnames hs).idxOf x] := List.getElem?_eq_getElem hj
  have hO := hOf_at hn hg
  rw [he] at hO
  refine ⟨(hnames hs).idxOf x, by omega, ?_, by rw [hg, hO], by rw [hO]; exact he⟩
  unfold idxL; rw [if_pos hm]

set_option maxHeartbeats 4000000 in
set_option maxRecDepth 100000 in
theorem specOwnFilters_c {w : World} {B b o n1 k1 n2 k2 : Nat} {A2 : Option Addr} {L : List Lgr} {ls : List LgrV} (q : Int) (x : ByteArray) (hl : Ls w B n1 (.slice (some ⟨b, o, none⟩) n1 k1) ls) (hL : lsOf ls = L) (hN : lnames ls = nsOf L) (hlen : (nsOf L).length = n1) (hB : B ≤ w.heap.size) (hbB : b < B)
    (h0 : (nsOf L)[0]? = some []) (hnd : (nsOf L).Nodup) :
    Calls Tryz.prog 75 #[.agg #[.slice (some ⟨b, o, none⟩) n1 k1, .slice A2 n2 k2, .int .i64 q], .string x] w (fun e w' => ∃ (A : Option Addr) (fn c : Nat), e = .returned (.slice A fn c) ∧ Fs w' w'.heap.size fn (.slice A fn c) (ownF L x.data.toList) ∧ Below w.heap.size w w') := by
  have HB0 := hid (show Below w.heap.size w (w.alloc (.cells #[.slice (some ⟨b, o, none⟩) n1 k1, .slice A2 n2 k2, .int .i64 q] 36)) from (Below.refl _ _).alloc (Nat.le_refl _) _)
  have AT := hid (loggerAt_c (.slice (some ⟨b, o, none⟩) n1 k1) n1 B ls x (w.alloc (.cells #[.slice (some ⟨b, o, none⟩) n1 k1, .slice A2 n2 k2, .int .i64 q] 36)) (hl.below HB0.out hB))
  rw [hN] at AT
  have hcap := hl.1.cap
  unfold maxLen at hcap
  by_cases hm : x.data.toList ∈ nsOf L
  · have hns := near_self h0 hnd hm
    have hlt : nearN (nsOf L) x.data.toList < n1 := by rw [← hlen]; exact hns.1
    have hix : idxL (nsOf L) x.data.toList = ((nearN (nsOf L) x.data.toList : Nat) : Int) := by
      unfold idxL
      rw [if_pos hm]
      have : (nsOf L).idxOf x.data.toList = nearN (nsOf L) x.data.toList := (near_hit h0 hnd _ _ (by rw [List.getElem?_eq_getElem (List.idxOf_lt_length_of_mem hm), List.getElem_idxOf])).symm
      rw [this]
    rw [hix] at AT
    have HO := hid (show ownF L x.data.toList = fsAt L (nearN (nsOf L) x.data.toList) by unfold ownF; rw [if_pos hm])
    obtain ⟨p, A3, hn', k3, A4, fn, k4, hp, hps, _, hff, g0, g1, g2, g3, g4, g5⟩ := logger_at (hl.below HB0.out hB) hL hlt
    have HF := hid hff
    clear hns hm hix hp hps hff g0 g1 g2 g4 g5 hl hL hN hlen h0 hnd
    generalize ownF L x.data.toList = Y at HO ⊢
    generalize hk : nearN (nsOf L) x.data.toList = k at *
    clear hk
    have s0 : (0 : Int) ≤ (k : Int) := by omega
    have s1 : (k : Int) < (n1 : Int) := by omega
    have s2 : ((k : Int)).toNat = k := by simp
    go_enter Tryz.func75, Tryz.ntmps75
    go_wp2_with (go_at_call 65; refine (AT.out).mono ?_; rintro e w2 ⟨rfl, hw2⟩; have hw2 := hw2.symm; subst hw2)
    go_ret
    exact ⟨_, _, _, rfl, by rw [HO.out]; exact ⟨HF.out.1.more (by simp; omega), HF.out.2⟩, HB0.out⟩
  · have hix : idxL (nsOf L) x.data.toList = -1 := idx_miss _ _ hm
    rw [hix] at AT
    have HO := hid (show ownF L x.data.toList = [] by unfold ownF; rw [if_neg hm])
    clear hm hix hl hL hN hlen h0 hnd
    generalize ownF L x.data.toList = Y at HO ⊢
    go_enter Tryz.func75, Tryz.ntmps75
    go_wp2_with (go_at_call 65; refine (AT.out).mono ?_; rintro e w2 ⟨rfl, hw2⟩; have hw2 := hw2.symm; subst hw2)
    go_ret
    exact ⟨_, _, _, rfl, by rw [HO.out]; exact ⟨⟨by simp [fsCells], _, _, rfl, Nat.le_refl _, Nat.zero_le _, fun h => by omega⟩, fun f hf => by cases hf⟩, HB0.out.alloc HB0.out.size _⟩
end Go.Proofs.YtlifaeleoiodkaaGreatDoor
