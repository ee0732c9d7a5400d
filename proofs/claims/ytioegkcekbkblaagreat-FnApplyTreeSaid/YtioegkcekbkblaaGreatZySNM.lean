/-
  SN4, SN5, SN6 laid together.
-/
import Derived.Test.YtioegkcekbkblaaGreatZySN3
import Derived.Test.YtioegkcekbkblaaGreatZyUM
import Derived.Test.YtioegkcekbkblaaGreatZyLookS
import Derived.Test.YtioegkcekbkblaaGreatZyFRM
/-
  RECORDS SENT: the program's SendRecord, ExplainRecord, RunRecords. By gen_sn4.py.
-/
namespace Go.Proofs.YtioegkcekbkblaaGreat
open Go.RowKit Go.Proofs.YtioegkcekbkblaaGreat.Nm
set_option linter.unusedSimpArgs false
set_option linter.unusedVariables false

theorem spotsI_max {L : List Lgr} {H : List Hnd} {q : Int} {x : Name} (h1 : treeOk L H q = true) (h2 : nameOk x = true) : (spotsI L (pathN (nsOf L) x)).length ≤ 30 := by
  have h9 := spotsT_len L H q x
  rwa [show spotsT L H q x = spotsI L (pathN (nsOf L) x) by unfold spotsT; rw [h1, h2]; rfl] at h9
theorem ocX_len (L : List Lgr) (H : List Hnd) (q : Int) (r : Rec) : (ocX L H q r).length ≤ 30 := by
  unfold ocX
  split
  · rename_i h
    simp only [Bool.and_eq_true] at h
    split
    · rw [outs_len]; unfold spX; split
      · simp
      · exact spotsI_max h.1 (recOk_rng h.2).2.2
    · simp
  · simp
theorem occells_at {w : World} {B n c : Nat} {A : Option Addr} {nm tx : ByteArray} {sq : Int} {l : List Oc} (h : Sl w B 7 n (.slice A n c) (l.flatMap (occells nm.data.toList tx.data.toList sq))) {k : Nat} (hk : k < n) :
    ∃ (b o : Nat) (lg hd : ByteArray) (kd lv : Int), A = some ⟨b, o, none⟩ ∧ b < B ∧ l[k]? = some ⟨lg.data.toList, hd.data.toList, kd, lv⟩ ∧ w.cell? ⟨b, o + k * 7, none⟩ = some (.string lg) ∧ w.cell? ⟨b, o + k * 7 + 1, none⟩ = some (.string hd) ∧ w.cell? ⟨b, o + k * 7 + 2, none⟩ = some (.int .i64 kd) ∧ w.cell? ⟨b, o + k * 7 + 3, none⟩ = some (.string nm) ∧ w.cell? ⟨b, o + k * 7 + 4, none⟩ = some (.int .i64 lv) ∧ w.cell? ⟨b, o + k * 7 + 5, none⟩ = some (.string tx) ∧ w.cell? ⟨b, o + k * 7 + 6, none⟩ = some (.int .i64 sq) := by
  obtain ⟨b, o, x, e, hb, hx, hc⟩ := Sl.elem (occells_len _ _ _) h (by omega) hk
  obtain ⟨lg, hd, kd, lv⟩ := x
  refine ⟨b, o, ⟨lg.toArray⟩, ⟨hd.toArray⟩, kd, lv, e, hb, by simpa using hx, hc 0 _ rfl, hc 1 _ rfl, hc 2 _ rfl, ?_, hc 4 _ rfl, ?_, hc 6 _ rfl⟩
  · have := hc 3 _ rfl; rwa [txt_data] at this
  · have := hc 5 _ rfl; rwa [txt_data] at this
theorem sentOf_step {nm tx : List UInt8} {sq : Int} {X : List Oc} {k : Nat} {o : Oc} (h : X[k]? = some o) : sentOf nm tx sq (X.take (k + 1)) = sentOf nm tx sq (X.take k) ++ (if o.kd = 0 then [sent1 nm tx sq o] else []) := by
  rw [List.take_add_one, h, Option.toList_some, sentOf_app]
  congr 1
  unfold sentOf
  by_cases e : o.kd = 0 <;> simp [e]
set_option maxHeartbeats 8000000 in
set_option maxRecDepth 100000 in
theorem implSendRecord_c {w : World} {B : Nat} {v : Value} {L : List Lgr} {H : List Hnd} {q : Int} (nm tx : ByteArray) (lv sq : Int) (h : TreeIn w B v L H q) (hB : B ≤ w.heap.size) (hnm : nm.size ≤ 1048576) (htx : tx.size ≤ 1048576) :
    Calls Tryz.prog 12 #[v, .agg #[.string nm, .int .i64 lv, .string tx, .int .i64 sq]] w (RowPost w 41 6 (sendX L H q ⟨nm.data.toList, lv, tx.data.toList, sq⟩).length ((sendX L H q ⟨nm.data.toList, lv, tx.data.toList, sq⟩).flatMap sncells)) := by
  have CO := hid (fun (W : World) (hW : Below w.heap.size w W) => outcomesOf_c nm tx lv sq (h.below hW hB) (Nat.le_trans hB hW.size) hnm htx)
  obtain ⟨A1, n1, k1, A2, n2, k2, rfl⟩ := h.form
  have HL := hid (ocX_len L H q ⟨nm.data.toList, lv, tx.data.toList, sq⟩)
  have HX := hid (show sendX L H q ⟨nm.data.toList, lv, tx.data.toList, sq⟩ = sentOf nm.data.toList tx.data.toList sq (ocX L H q ⟨nm.data.toList, lv, tx.data.toList, sq⟩) from rfl)
  have HB0 := hid (show Below w.heap.size w ((w.alloc (.cells #[.slice A1 n1 k1, .slice A2 n2 k2, .int .i64 q] 26)).alloc (.cells #[.string nm, .int .i64 lv, .string tx, .int .i64 sq] 28)) by go_grown)
  generalize sendX L H q ⟨nm.data.toList, lv, tx.data.toList, sq⟩ = Y at HX ⊢
  unfold OcPost at CO
  generalize ocX L H q ⟨nm.data.toList, lv, tx.data.toList, sq⟩ = X at HX HL CO
  generalize hn : X.length = n at *
  have HN := hid hn
  have hn30 : n ≤ 30 := HL.out
  clear h hn
  go_enter Tryz.func12, Tryz.ntmps12
  go_wp2_with fail
  refine (CO.out _ HB0.out).mono ?_
  rintro e w1 ⟨vO, rfl, hO, hb⟩
  obtain ⟨AO, cO, rfl, hnc, hcO⟩ := (Sl.of_own hO).form
  unfold maxLen at hcO
  have HB1 := hid (HB0.out.trans (hb.mono HB0.out.size))
  have HO := hid (Sl.of_own hO)
  clear hb hO HB0
  go_wp2_with fail
  go_loopw [5, 12] (fun ov iv wr => ∃ (k : Nat) (x : List Snt), iv = .int .i64 k ∧ k ≤ n ∧ Hid (x = sentOf nm.data.toList tx.data.toList sq (X.take k)) ∧ x.length ≤ k ∧ Hid (wr.ownsRow w1.heap.size 41 6 ov x.length (x.flatMap sncells)) ∧ Hid (Below w1.heap.size w1 wr)) (fun _ iv _ => n - (intOf iv).toNat)
  case atStart => exact ⟨0, [], rfl, by omega, rfl, by simp, World.ownsRow_nil _ _ _ _, Below.refl _ _⟩
  case round =>
    obtain ⟨k, x, rfl, hk, HXk, hxl, HOW, HB⟩ := hrel
    obtain ⟨Ax, cx, rfl, -, -⟩ := (Sl.of_own HOW.out).form
    by_cases hlt : k < n
    · obtain ⟨b, o, lg, hd, kd, g, rfl, hbB, hx, c0, c1, c2, c3, c4, c5, c6⟩ := occells_at (HO.out.below HB.out (Nat.le_refl _)) hlt
      have hbr : b < wr.heap.size := Nat.lt_of_lt_of_le hbB HB.out.size
      have HXX := hid hx
      have hls := HB.out.size
      clear hx
      by_cases hkd : kd = 0
      · subst hkd
        have HST := hid (sentOf_step (nm := nm.data.toList) (tx := tx.data.toList) (sq := sq) HXX.out)
        have HBa := hid (HB.out.alloc HB.out.size (.cells #[.string lg, .string hd, .int .i64 0, .string nm, .int .i64 g, .string tx, .int .i64 sq] 79))
        have HOa := hid (HOW.out.alloc (.cells #[.string lg, .string hd, .int .i64 0, .string nm, .int .i64 g, .string tx, .int .i64 sq] 79))
        have hla := HBa.out.size
        go_wp2_with (at_builtin; refine Classical.byContradiction (fun hgoal => ?_))
        refine hgoal (appSent _ rfl (.tmp 19) (.tmp 29) rfl w1.heap.size _ x (by rfl) HOa.out lg hd nm g tx sq _ _ _ (by rfl) (by first | rfl | simp) (by omega) hla ?_)
        intro v9 w9 ho9 hb9
        have HO9 := hid ho9
        have HB9 := hid (HBa.out.trans hb9)
        clear ho9 hb9
        go_wp2_with fail
        go_roundw
        case rel => exact ⟨k + 1, _, by go_num, by omega, (by show _ = _; rw [HST.out, HXk.out]; rfl), by rw [List.length_append]; show x.length + 1 ≤ _; omega, HO9.out, HB9.out⟩
        case measure => simp [intOf]; omega
      · have q0 : (kd == 0) = false := by simpa using hkd
        have HST := hid (show sentOf nm.data.toList tx.data.toList sq (X.take (k + 1)) = sentOf nm.data.toList tx.data.toList sq (X.take k) by rw [sentOf_step HXX.out, if_neg hkd, List.append_nil])
        clear hkd
        go_wp2_with fail
        go_roundw
        case rel => exact ⟨k + 1, x, by go_num, by omega, (by show _ = _; rw [HST.out, HXk.out]), by omega, HOW.out.alloc _, HB.out.alloc HB.out.size _⟩
        case measure => simp [intOf]; omega
    · have HF := hid (show Y = x by rw [HX.out, HXk.out, List.take_of_length_le (by have := HN.out; omega)])
      go_wp2_with fail
      go_ret
      exact ⟨_, rfl, by rw [HF.out]; exact own_base HOW.out HB1.out.size, HB1.out.trans (HB.out.mono HB1.out.size)⟩

end Go.Proofs.YtioegkcekbkblaaGreat

/-
  RECORDS SENT: the program's RunRecords. By gen_sn5.py.
-/
namespace Go.Proofs.YtioegkcekbkblaaGreat
open Go.RowKit Go.Proofs.YtioegkcekbkblaaGreat.Nm
set_option linter.unusedSimpArgs false
set_option linter.unusedVariables false

end Go.Proofs.YtioegkcekbkblaaGreat


/-
  RECORDS SENT: the model: plain facts, ownFilters.
-/
namespace Go.Proofs.YtioegkcekbkblaaGreat
open Go.RowKit Go.Proofs.YtioegkcekbkblaaGreat.Nm
set_option linter.unusedSimpArgs false
set_option linter.unusedVariables false

end Go.Proofs.YtioegkcekbkblaaGreat
