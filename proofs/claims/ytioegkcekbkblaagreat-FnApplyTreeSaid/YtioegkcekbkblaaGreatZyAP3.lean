/-
  A TREE APPLIED: ApplyTree of the program and of the model. By gen_ap3.py.
-/
import Derived.Test.YtioegkcekbkblaaGreatZyAP2
namespace Go.Proofs.YtioegkcekbkblaaGreat
open Go.RowKit Nm
set_option linter.unusedSimpArgs false
set_option linter.unusedVariables false

set_option maxHeartbeats 8000000 in
set_option maxRecDepth 100000 in
theorem implApplyTree_c {w : World} {Ba B : Nat} {va v : Value} {La : List Lgr} {Ha : List Hnd} {qa : Int} {L : List Lgr} {H : List Hnd} {q : Int} (ha : TreeIn w Ba va La Ha qa) (hBa : Ba ≤ w.heap.size) (h : TreeIn w B v L H q) (hB : B ≤ w.heap.size) :
    Calls Tryz.prog 39 #[va, v] w (TreePostO w (appX La Ha qa L H q)) := by
  obtain ⟨B1, m1, j1, B2, m2, j2, rfl⟩ := ha.form
  obtain ⟨A1, n1, k1, A2, n2, k2, rfl⟩ := h.form
  have HW := hid (show Below w.heap.size w (((w.alloc (.cells #[.slice B1 m1 j1, .slice B2 m2 j2, .int .i64 qa] 26)).alloc (.cells #[.slice A1 n1 k1, .slice A2 n2 k2, .int .i64 q] 26)).alloc (.cells #[.slice none 0 0, .slice none 0 0, .int .i64 0] 26)) from (((Below.refl _ _).alloc (Nat.le_refl _) _).alloc (by simp) _).alloc (by simp; omega) _)
  have KA := hid (((Blk.new w #[.slice B1 m1 j1, .slice B2 m2 j2, .int .i64 qa] 26).alloc (.cells #[.slice A1 n1 k1, .slice A2 n2 k2, .int .i64 q] 26)).alloc (.cells #[.slice none 0 0, .slice none 0 0, .int .i64 0] 26))
  have KB := hid ((Blk.new (w.alloc (.cells #[.slice B1 m1 j1, .slice B2 m2 j2, .int .i64 qa] 26)) #[.slice A1 n1 k1, .slice A2 n2 k2, .int .i64 q] 26).alloc (.cells #[.slice none 0 0, .slice none 0 0, .int .i64 0] 26))
  have KR := hid (Blk.new ((w.alloc (.cells #[.slice B1 m1 j1, .slice B2 m2 j2, .int .i64 qa] 26)).alloc (.cells #[.slice A1 n1 k1, .slice A2 n2 k2, .int .i64 q] 26)) #[.slice none 0 0, .slice none 0 0, .int .i64 0] 26)
  simp only [World.size_alloc] at KB KR
  have hsz3 : (((w.alloc (.cells #[.slice B1 m1 j1, .slice B2 m2 j2, .int .i64 qa] 26)).alloc (.cells #[.slice A1 n1 k1, .slice A2 n2 k2, .int .i64 q] 26)).alloc (.cells #[.slice none 0 0, .slice none 0 0, .int .i64 0] 26)).heap.size = w.heap.size + 3 := by simp
  have CV := implValidTreeX_c (ha.below HW.out hBa) (Nat.le_trans hBa HW.out.size)
  have hmf : ∀ (fn : Fn) (first cap : Array Value) (w : World), (Instr.makeFunc fn first cap).run Tryz.prog w = .ok (.func fn first cap) w := fun _ _ _ _ => rfl
  have HTA := hid ha
  have HT := hid h
  clear ha h
  have d0 := (KA.out.2 0 _ rfl).1
  have d1 := (KA.out.2 1 _ rfl).1
  have d2 := (KA.out.2 2 _ rfl).1
  cases hz : treeOk La Ha qa with
  | false =>
    have HX := hid (show appX La Ha qa L H q = none by unfold appX; rw [hz]; rfl)
    rw [hz] at CV
    generalize appX La Ha qa L H q = X at *
    replace CV := hid CV
    clear hz
    go_enter Tryz.func39, Tryz.ntmps39
    go_wp2_with fail
    refine (CV.out).mono ?_
    rintro e w4 ⟨rfl, hb4⟩
    have HW4 := hid (HW.out.trans (hb4.mono HW.out.size))
    have KR4 := hid (KR.out.to hb4)
    clear hb4 d0 d1 d2 hsz3
    obtain ⟨q0c, q0f⟩ := KR4.out.2 0 _ rfl
    obtain ⟨q1c, q1f⟩ := KR4.out.2 1 _ rfl
    obtain ⟨q2c, q2f⟩ := KR4.out.2 2 _ rfl
    go_wp2_with fail
    have RB := ((KR4.out.set 0 (.slice none 0 0)).set 1 (.slice none 0 0)).set 2 (.int .i64 0)
    have f0 := (RB.2 0 _ rfl).1
    have f1 := (RB.2 1 _ rfl).1
    have f2 := (RB.2 2 _ rfl).1
    refine bodyPost_ret (v := .tuple #[.agg #[.slice none 0 0, .slice none 0 0, .int .i64 0], .bool false]) (by simp [results, Tryz.results39, go_sem, f0, f1, f2]) rfl ?_
    refine postO_none HX.out rfl ?_
    iterate 3 refine Below.setCell ?_ (by simp; try omega) _
    exact HW4.out
  | true =>
    have HX := hid (show appX La Ha qa L H q = changedO L H q (some (appK La L La.length, H, q)) by unfold appX; rw [hz]; rfl)
    rw [hz] at CV
    generalize appX La Ha qa L H q = X at *
    replace CV := hid CV
    have HZ := hid hz
    clear hz
    go_enter Tryz.func39, Tryz.ntmps39
    go_wp2_with fail
    refine (CV.out).mono ?_
    rintro e w4 ⟨rfl, hb4⟩
    have HW4 := hid (HW.out.trans (hb4.mono HW.out.size))
    have KA4 := hid (KA.out.to hb4)
    have KB4 := hid (KB.out.to hb4)
    have KR4 := hid (KR.out.to hb4)
    have hw4 : w.heap.size + 3 ≤ w4.heap.size := by have := hb4.size; rw [hsz3] at this; exact this
    have CQ := hid (implChanged2_c 81 (.pointer (some ⟨w.heap.size, 0, none⟩)) (.pointer (some ⟨w.heap.size + 1, 0, none⟩)) (some (appK La L La.length, H, q)) (HT.out.below HW4.out hB) (Nat.le_trans hB HW4.out.size) (fun args w => enters rfl (by kernel_rfl) rfl args w)
      (fun W lo bc v1 v2 rs hok hp => appClo_c (HTA.out.below HW4.out hBa) (Nat.le_trans hBa HW4.out.size) KA4.out HZ.out (HT.out.below HW4.out hB) (Nat.le_trans hB HW4.out.size) KB4.out hok W lo bc v1 v2 rs hp))
    clear hb4 d0 d1 d2 hsz3
    have d0 := (KB4.out.2 0 _ rfl).1
    have d1 := (KB4.out.2 1 _ rfl).1
    have d2 := (KB4.out.2 2 _ rfl).1
    go_wp2_with fail
    refine (CQ.out).mono ?_
    rintro e w5 ⟨v', rs, rfl, hs, hr, hb5⟩
    have HX' := hid (show changedO L H q (some (appK La L La.length, H, q)) = X from HX.out.symm)
    rw [HX'.out] at hs
    obtain ⟨u1, u2, ls, hs', rfl, hL, hH, rfl⟩ := hs
    have HB5 := hid (HW4.out.trans (hb5.mono HW4.out.size))
    have HS5 := hid (show TreeS (treeRows ls.length u1 ls hs'.length u2 hs') (.agg #[u1, u2, .int .i64 (resQ X)]) (resL X) (resH X) (resQ X) from ⟨u1, u2, ls, hs', rfl, hL, hH, rfl⟩)
    obtain ⟨hl, hh⟩ := hr.lsIn
    obtain ⟨A3, c3, rfl, _, _⟩ := hl.1.form
    obtain ⟨A4, c4, rfl, _, _⟩ := hh.1.form
    have HR5 := hid hr
    have KR5 := hid (KR4.out.to hb5)
    generalize hq0 : resQ X = q0 at *
    generalize hi0 : (changedO L H q (some (appK La L La.length, H, q))).isSome = i0 at *
    have HI := hid (show X.isSome = i0 by rw [← HX'.out]; exact hi0)
    have HQ0 := hid hq0
    clear hq0 hi0 hb5 hr hl hh hL hH d0 d1 d2
    obtain ⟨q0c, q0f⟩ := KR5.out.2 0 _ rfl
    obtain ⟨q1c, q1f⟩ := KR5.out.2 1 _ rfl
    obtain ⟨q2c, q2f⟩ := KR5.out.2 2 _ rfl
    go_wp2_with fail
    have RB := ((KR5.out.set 0 (.slice A3 ls.length c3)).set 1 (.slice A4 hs'.length c4)).set 2 (.int .i64 q0)
    have f0 := (RB.2 0 _ rfl).1
    have f1 := (RB.2 1 _ rfl).1
    have f2 := (RB.2 2 _ rfl).1
    refine bodyPost_ret (v := .tuple #[.agg #[.slice A3 ls.length c3, .slice A4 hs'.length c4, .int .i64 q0], .bool i0]) (by simp [results, Tryz.results39, go_sem, f0, f1, f2]) rfl ?_
    refine ⟨_, _, by rw [HI.out], (by rw [HQ0.out]; exact HS5.out), ?_, ?_⟩
    · refine Rows.base ?_ (show w.heap.size ≤ w4.heap.size by omega)
      iterate 3 refine Rows.low ?_ (by omega)
      exact HR5.out
    · iterate 3 refine Below.setCell ?_ (by simp; try omega) _
      exact HB5.out

set_option maxHeartbeats 4000000 in
set_option maxRecDepth 100000 in
theorem belowAny_c {w : World} {B n1 k1 n2 k2 : Nat} {A1 A2 : Option Addr} {L : List Lgr} {H : List Hnd} {q : Int} (s : ByteArray) (h : TreeIn w B (.agg #[.slice A1 n1 k1, .slice A2 n2 k2, .int .i64 q]) L H q) (hB : B ≤ w.heap.size) (h8 : L.length ≤ 8) (h1 : 1 ≤ L.length) (hz : s.size ≤ 1048576) (hnm : ∀ l ∈ L, l.nm.length ≤ 1048576) :
    Calls Tryz.prog 84 #[.agg #[.slice A1 n1 k1, .slice A2 n2 k2, .int .i64 q], .string s] w (BoolPost w (anyBelow L s.data.toList)) := by
  obtain ⟨la, hla, hLa⟩ := h.loggers
  have hca := hla.count
  have hma : n1 = L.length := by rw [← hLa]; unfold lsOf; rw [List.length_map]; exact hca.symm
  have HMA := hid hma
  have hn8 : n1 ≤ 8 := by omega
  have hn1 : 1 ≤ n1 := by omega
  have hj1 := hla.1.cap.2
  have hmj := hla.1.cap.1
  unfold maxLen at hj1
  have HLA := hid (fun (W' : World) (hW : Below w.heap.size w W') (k : Nat) (hk : k < n1) => (hla.below hW hB).at_ hk)
  have HLL := hid (fun (k : Nat) (x : LgrV) (hx : la[k]? = some x) => (show L[k]? = some x.l by rw [← hLa]; unfold lsOf; rw [List.getElem?_map, hx]; rfl))
  have HNM := hid hnm
  have CB := hid (fun (b : ByteArray) (hb : b.size ≤ 1048576) (W : World) => specBelow_c s b W (by unfold maxLen; omega) (by unfold maxLen; omega))
  have K0 := hid (Blk.new w #[.slice A1 n1 k1, .slice A2 n2 k2, .int .i64 q] 26)
  have HB0 := hid (show Below w.heap.size w (w.alloc (.cells #[.slice A1 n1 k1, .slice A2 n2 k2, .int .i64 q] 26)) from (Below.refl _ _).alloc (Nat.le_refl _) _)
  have d0 := (K0.out.2 0 _ rfl).1
  clear h hla hLa hca hnm hma h8 h1
  go_enter Tryz.func84, Tryz.ntmps84
  go_wp2_with fail
  generalize w.alloc (.cells #[.slice A1 n1 k1, .slice A2 n2 k2, .int .i64 q] 26) = w1 at *
  go_loopw [5] (fun iv wr => ∃ (k : Nat), iv = .int .i64 k ∧ 1 ≤ k ∧ k ≤ n1 ∧ Hid (∀ j, 1 ≤ j → j < k → belowL s.data.toList ((nsOf L).getD j []) = false) ∧ Hid (Below w1.heap.size w1 wr)) (fun iv _ => n1 - (intOf iv).toNat)
  case atStart => exact ⟨1, rfl, by omega, by omega, fun j h1 h2 => by omega, Below.refl _ _⟩
  case round =>
    obtain ⟨k, rfl, hk1, hk, HN, HBr⟩ := hrel
    have HWr := hid (HB0.out.trans (HBr.out.mono HB0.out.size))
    have e0 := ((K0.out.to HBr.out).2 0 _ rfl).1
    by_cases hlt : k < n1
    · obtain ⟨b, o, x, p, rfl, hbB, hx, hpx, hpz, _, _, c0, _⟩ := HLA.out wr HWr.out k hlt
      have hlx := HLL.out k x hx
      have hd : (nsOf L).getD k [] = p.data.toList := by rw [hpx]; unfold nsOf; simp [List.getD, hlx]
      have HD := hid hd
      have CC := hid (CB.out p (by have := HNM.out x.l (List.mem_of_getElem? hlx); rw [← hpx, ← Lib.size_eq] at this; exact this) wr)
      have s0 : (0 : Int) ≤ (k : Int) := by omega
      have s1 : (k : Int) < (n1 : Int) := by omega
      have s2 : ((k : Int)).toNat = k := by simp
      clear hx hpx hlx hd d0
      cases hb : belowL s.data.toList p.data.toList with
      | true =>
        have HT := hid (show anyBelow L s.data.toList = true by
          unfold anyBelow
          rw [List.any_eq_true]
          refine ⟨p.data.toList, ?_, hb⟩
          have hkl : k < (nsOf L).length := by unfold nsOf; rw [List.length_map, ← HMA.out]; omega
          refine List.mem_of_getElem? (i := k - 1) ?_
          rw [List.getElem?_drop, show 1 + (k - 1) = k by omega, List.getElem?_eq_getElem hkl]
          have := HD.out
          simp [List.getD, hkl] at this
          rw [this])
        rw [hb] at CC
        clear hb
        go_wp2_with (go_at_call 121; refine (CC.out).mono ?_; rintro e w2 ⟨rfl, rfl⟩)
        go_ret
        exact ⟨ret_bool HT.out.symm, HWr.out⟩
      | false =>
        have HF := hid hb
        rw [hb] at CC
        clear hb
        go_wp2_with (go_at_call 121; refine (CC.out).mono ?_; rintro e w2 ⟨rfl, rfl⟩)
        go_roundw
        case rel =>
          refine ⟨k + 1, by go_num, by omega, by omega, fun j h1 h2 => ?_, HBr.out⟩
          by_cases hj : j = k
          · subst hj; rw [HD.out]; exact HF.out
          · exact HN.out j h1 (by omega)
        case measure => simp [intOf]; omega
    · obtain rfl : k = n1 := by omega
      have HF := hid (show anyBelow L s.data.toList = false by
        unfold anyBelow
        rw [List.any_eq_false]
        intro y hy
        obtain ⟨j, hj⟩ := List.getElem?_of_mem hy
        rw [List.getElem?_drop] at hj
        have hjl := (List.getElem?_eq_some_iff.1 hj).1
        have hjn : 1 + j < k := by unfold nsOf at hjl; rw [List.length_map, ← HMA.out] at hjl; omega
        have h9 := HN.out (1 + j) (by omega) hjn
        rw [show (nsOf L).getD (1 + j) [] = y by simp [List.getD, hj]] at h9
        rw [h9]; simp)
      clear d0
      go_wp2_with fail
      go_ret
      exact ⟨ret_bool HF.out.symm, HWr.out⟩

set_option maxHeartbeats 16000000 in
set_option maxRecDepth 100000 in
theorem specApplyTree_c {w : World} {Ba B : Nat} {va v : Value} {La : List Lgr} {Ha : List Hnd} {qa : Int} {L : List Lgr} {H : List Hnd} {q : Int} (ha : TreeIn w Ba va La Ha qa) (hBa : Ba ≤ w.heap.size) (h : TreeIn w B v L H q) (hB : B ≤ w.heap.size) :
    Calls Tryz.prog 40 #[va, v] w (TreePostO w (appX La Ha qa L H q)) := by
  obtain ⟨B1, m1, j1, B2, m2, j2, rfl⟩ := ha.form
  obtain ⟨A1, n1, k1, A2, n2, k2, rfl⟩ := h.form
  have HW := hid (show Below w.heap.size w (((w.alloc (.cells #[.slice B1 m1 j1, .slice B2 m2 j2, .int .i64 qa] 26)).alloc (.cells #[.slice A1 n1 k1, .slice A2 n2 k2, .int .i64 q] 26)).alloc (.cells #[.slice none 0 0, .slice none 0 0, .int .i64 0] 26)) from (((Below.refl _ _).alloc (Nat.le_refl _) _).alloc (by simp) _).alloc (by simp; omega) _)
  have KA := hid (((Blk.new w #[.slice B1 m1 j1, .slice B2 m2 j2, .int .i64 qa] 26).alloc (.cells #[.slice A1 n1 k1, .slice A2 n2 k2, .int .i64 q] 26)).alloc (.cells #[.slice none 0 0, .slice none 0 0, .int .i64 0] 26))
  have KB := hid ((Blk.new (w.alloc (.cells #[.slice B1 m1 j1, .slice B2 m2 j2, .int .i64 qa] 26)) #[.slice A1 n1 k1, .slice A2 n2 k2, .int .i64 q] 26).alloc (.cells #[.slice none 0 0, .slice none 0 0, .int .i64 0] 26))
  have KR := hid (Blk.new ((w.alloc (.cells #[.slice B1 m1 j1, .slice B2 m2 j2, .int .i64 qa] 26)).alloc (.cells #[.slice A1 n1 k1, .slice A2 n2 k2, .int .i64 q] 26)) #[.slice none 0 0, .slice none 0 0, .int .i64 0] 26)
  simp only [World.size_alloc] at KB KR
  have hsz3 : (((w.alloc (.cells #[.slice B1 m1 j1, .slice B2 m2 j2, .int .i64 qa] 26)).alloc (.cells #[.slice A1 n1 k1, .slice A2 n2 k2, .int .i64 q] 26)).alloc (.cells #[.slice none 0 0, .slice none 0 0, .int .i64 0] 26)).heap.size = w.heap.size + 3 := by simp
  have CV := specTreeX_c (ha.below HW.out hBa) (Nat.le_trans hBa HW.out.size)
  have CV' := fun (W : World) (hW : Below w.heap.size w W) => specTreeX_c (h.below hW hB) (Nat.le_trans hB hW.size)
  have CC := fun (hz : treeOk L H q = true) (W : World) (hW : Below w.heap.size w W) => specCopy_c (h.below hW hB) hz (Nat.le_trans hB hW.size)
  have CBA := hid (fun (hz : treeOk L H q = true) (s : ByteArray) (hs : s.size ≤ 1048576) (W : World) (hW : Below w.heap.size w W) => belowAny_c s (h.below hW hB) (Nat.le_trans hB hW.size) (tree_ns hz).2.2.2.2.1 (tree_ns hz).2.2.2.2.2 hs (fun l hl => by have := ((fit_ok hz).1.2 l hl).1; unfold maxTxt at this; exact this))
  obtain ⟨lb, hlb, hLb⟩ := h.loggers
  have ATL := hid (fun (s : ByteArray) (W : World) (hW : Below w.heap.size w W) => (show Calls Tryz.prog 83 #[.slice A1 n1 k1, .string s] W (fun e w' => e = .returned (.int .i64 (idxL (namesOf L) s.data.toList)) ∧ w' = W) from by
    have h9 := loggerAt_c (.slice A1 n1 k1) n1 B lb s W (hlb.below hW hB); rw [show lnames lb = namesOf L by rw [← hLb, namesOf_ls]] at h9; exact h9))
  obtain ⟨la, hla, hLa⟩ := ha.loggers
  have hca := hla.count
  have hma : m1 = La.length := by rw [← hLa]; unfold lsOf; rw [List.length_map]; exact hca.symm
  have HMA := hid hma
  have hj1 := hla.1.cap.2
  have hmj := hla.1.cap.1
  unfold maxLen at hj1
  have HLA := hid (fun (W' : World) (hW : Below w.heap.size w W') (k : Nat) (hk : k < m1) => (hla.below hW hBa).at_ hk)
  have HLL := hid (fun (k : Nat) (x : LgrV) (hx : la[k]? = some x) => (show La[k]? = some x.l by rw [← hLa]; unfold lsOf; rw [List.getElem?_map, hx]; rfl))
  clear h ha hlb hLb hla hLa hca hma
  have d0 := (KA.out.2 0 _ rfl).1
  have d1 := (KA.out.2 1 _ rfl).1
  have d2 := (KA.out.2 2 _ rfl).1
  cases hza : treeOk La Ha qa with
  | false =>
    have HX := hid (show appX La Ha qa L H q = none by unfold appX; rw [hza]; rfl)
    rw [hza] at CV
    generalize appX La Ha qa L H q = X at *
    replace CV := hid CV
    clear hza CV' CC CBA
    go_enter Tryz.func40, Tryz.ntmps40
    go_wp2_with fail
    refine (CV.out).mono ?_
    rintro e w4 ⟨rfl, hb4⟩
    have HW4 := hid (HW.out.trans (hb4.mono HW.out.size))
    have KR4 := hid (KR.out.to hb4)
    clear hb4 d0 d1 d2 hsz3
    obtain ⟨q0c, q0f⟩ := KR4.out.2 0 _ rfl
    obtain ⟨q1c, q1f⟩ := KR4.out.2 1 _ rfl
    obtain ⟨q2c, q2f⟩ := KR4.out.2 2 _ rfl
    go_wp2_with fail
    have RB := ((KR4.out.set 0 (.slice none 0 0)).set 1 (.slice none 0 0)).set 2 (.int .i64 0)
    have f0 := (RB.2 0 _ rfl).1
    have f1 := (RB.2 1 _ rfl).1
    have f2 := (RB.2 2 _ rfl).1
    refine bodyPost_ret (v := .tuple #[.agg #[.slice none 0 0, .slice none 0 0, .int .i64 0], .bool false]) (by simp [results, Tryz.results40, go_sem, f0, f1, f2]) rfl ?_
    refine postO_none HX.out rfl ?_
    iterate 3 refine Below.setCell ?_ (by simp; try omega) _
    exact HW4.out
  | true =>
    rw [hza] at CV
    replace CV := hid CV
    cases hzb : treeOk L H q with
    | false =>
      have HX := hid (show appX La Ha qa L H q = none by unfold appX changedO; rw [hzb]; split <;> rfl)
      rw [hzb] at CV'
      generalize appX La Ha qa L H q = X at *
      replace CV' := hid CV'
      clear hza hzb CC CBA
      go_enter Tryz.func40, Tryz.ntmps40
      go_wp2_with fail
      refine (CV.out).mono ?_
      rintro e w4 ⟨rfl, hb4⟩
      have HW4 := hid (HW.out.trans (hb4.mono HW.out.size))
      have KB4 := hid (KB.out.to hb4)
      have KR4 := hid (KR.out.to hb4)
      clear hb4 d0 d1 d2 hsz3
      have d0 := (KB4.out.2 0 _ rfl).1
      have d1 := (KB4.out.2 1 _ rfl).1
      have d2 := (KB4.out.2 2 _ rfl).1
      go_wp2_with fail
      refine (CV'.out _ HW4.out).mono ?_
      rintro e w5 ⟨rfl, hb5⟩
      have HW5 := hid (HW4.out.trans (hb5.mono HW4.out.size))
      have KR5 := hid (KR4.out.to hb5)
      clear hb5 d0 d1 d2
      obtain ⟨q0c, q0f⟩ := KR5.out.2 0 _ rfl
      obtain ⟨q1c, q1f⟩ := KR5.out.2 1 _ rfl
      obtain ⟨q2c, q2f⟩ := KR5.out.2 2 _ rfl
      go_wp2_with fail
      have RB := ((KR5.out.set 0 (.slice none 0 0)).set 1 (.slice none 0 0)).set 2 (.int .i64 0)
      have f0 := (RB.2 0 _ rfl).1
      have f1 := (RB.2 1 _ rfl).1
      have f2 := (RB.2 2 _ rfl).1
      refine bodyPost_ret (v := .tuple #[.agg #[.slice none 0 0, .slice none 0 0, .int .i64 0], .bool false]) (by simp [results, Tryz.results40, go_sem, f0, f1, f2]) rfl ?_
      refine postO_none HX.out rfl ?_
      iterate 3 refine Below.setCell ?_ (by simp; try omega) _
      exact HW5.out
    | true =>
      have HX := hid (show appX La Ha qa L H q = ifOk (appK La L La.length) H q by unfold appX changedO; rw [hza, hzb]; rfl)
      rw [hzb] at CV'
      generalize appX La Ha qa L H q = X at *
      replace CV' := hid CV'
      replace CC := hid (CC hzb)
      replace CBA := hid (CBA.out hzb)
      obtain ⟨_, _, _, h8a, _, _⟩ := tree_names hza
      obtain ⟨_, _, _, h8, _, _⟩ := tree_names hzb
      have HD := hid (appK_fit La.length (fit_ok hza) (fit_ok hzb) h8 h8a)
      have HLEN := hid (fun k => appK_len La L k)
      have hm8 : m1 ≤ 8 := by rw [HMA.out]; exact h8a
      have H88 := hid (And.intro h8 h8a)
      clear hza hzb h8a
      go_enter Tryz.func40, Tryz.ntmps40
      go_wp2_with fail
      refine (CV.out).mono ?_
      rintro e w4 ⟨rfl, hb4⟩
      have HW4 := hid (HW.out.trans (hb4.mono HW.out.size))
      have KA4 := hid (KA.out.to hb4)
      have KB4 := hid (KB.out.to hb4)
      have KR4 := hid (KR.out.to hb4)
      have hw4 : w.heap.size + 3 ≤ w4.heap.size := by have := hb4.size; rw [hsz3] at this; exact this
      clear hb4 d0 d1 d2 hsz3
      have d0 := (KB4.out.2 0 _ rfl).1
      have d1 := (KB4.out.2 1 _ rfl).1
      have d2 := (KB4.out.2 2 _ rfl).1
      go_wp2_with fail
      refine (CV'.out _ HW4.out).mono ?_
      rintro e w1 ⟨rfl, hb5⟩
      have HW1 := hid (HW4.out.trans (hb5.mono HW4.out.size))
      have KA1 := hid (KA4.out.to hb5)
      have KB1 := hid (KB4.out.to hb5)
      have KR1 := hid (KR4.out.to hb5)
      have hw1 : w.heap.size + 3 ≤ w1.heap.size := by have := hb5.size; omega
      clear hb5 d0 d1 d2 hw4 HW4 KA4 KB4 KR4
      have d0 := (KB1.out.2 0 _ rfl).1
      have d1 := (KB1.out.2 1 _ rfl).1
      have d2 := (KB1.out.2 2 _ rfl).1
      go_wp2_with fail
      refine (CC.out _ HW1.out).mono ?_
      rintro e w2 ⟨v', rs, rfl, hs, hr, hb2⟩
      obtain ⟨u1, u2, ls, hs', rfl, hL, hH, rfl⟩ := hs
      have hll : ls.length = L.length := by rw [← hL]; simp [lsOf]
      have HLLs := hid hll
      clear hll
      obtain ⟨hl, hh⟩ := hr.lsIn
      obtain ⟨A, c, rfl, hnc, hcm⟩ := hl.1.form
      obtain ⟨A4, c4, rfl, hnc4, hcm4⟩ := hh.1.form
      clear hl hh
      have HBA := hid (show Below w2.heap.size w2 (w2.alloc (.cells #[.slice A ls.length c, .slice A4 hs'.length c4, .int .i64 q] 26)) from (Below.refl _ _).alloc (Nat.le_refl _) _)
      have HB3 := hid ((show Below w1.heap.size w1 w2 from hb2).trans (HBA.out.mono hb2.size))
      have KO := hid (Blk.new w2 #[.slice A ls.length c, .slice A4 hs'.length c4, .int .i64 q] 26)
      have HR3 := hid (hr.below HBA.out)
      have HN3 := hid (rows_below hr)
      have HH := hid hH
      have HL := hid hL
      have hbo1 : w1.heap.size ≤ w2.heap.size := hb2.size
      have a0 := (((KA1.out.to hb2).alloc (.cells #[.slice A ls.length c, .slice A4 hs'.length c4, .int .i64 q] 26)).2 0 _ rfl).1
      clear hr hb2 hL hH d0 d1 d2
      go_wp2_with fail
      generalize hw3 : w2.alloc (.cells #[.slice A ls.length c, .slice A4 hs'.length c4, .int .i64 q] 26) = w3 at *
      generalize hbo : w2.heap.size = bo at *
      clear hw3 hbo a0 HBA
      go_loopw [7, 8] (fun iv bv wr => ∃ (k : Nat) (cul : List LgrV) (Ac : Option Addr) (cc : Nat) (u8 : Value), iv = .int .i64 k ∧ bv = u8 ∧ k ≤ m1 ∧ Hid (lsOf cul = appK La L k) ∧ Hid (Rows wr w1.heap.size (treeRows cul.length (.slice Ac cul.length cc) cul hs'.length (.slice A4 hs'.length c4) hs')) ∧
        Hid (Blk wr bo [.slice Ac cul.length cc, .slice A4 hs'.length c4, .int .i64 q]) ∧ Hid (∀ r ∈ treeRows cul.length (.slice Ac cul.length cc) cul hs'.length (.slice A4 hs'.length c4) hs', r.v.ownBlock ≠ some bo) ∧ Hid (Below w1.heap.size w1 wr)) (fun iv _ _ => m1 - (intOf iv).toNat)
      case atStart => exact ⟨0, ls, A, c, _, rfl, rfl, by omega, by simpa [Hid, appK_zero] using HL.out, HR3.out, KO.out, HN3.out, HB3.out⟩
      case round =>
        obtain ⟨k, cul, Ac, cc, u8, rfl, rfl, hk, HC, HRx, HKx, HNx, HBx⟩ := hrel
        have hlw : w1.heap.size ≤ wr.heap.size := HBx.out.size
        have HWx := hid (HW1.out.trans (HBx.out.mono HW1.out.size))
        have a0 := ((KA1.out.to HBx.out).2 0 _ rfl).1
        by_cases hlt : k < m1
        · obtain ⟨b, o, x, s, rfl, hbB, hx, hsx, hsz, _, _, c0, _⟩ := HLA.out wr HWx.out k hlt
          have hlx := HLL.out k x hx
          have HX1 := hid (And.intro hlx hsx)
          unfold maxTxt at hsz
          have b0 := ((KB1.out.to HBx.out).2 0 _ rfl).1
          have b1 := ((KB1.out.to HBx.out).2 1 _ rfl).1
          have b2 := ((KB1.out.to HBx.out).2 2 _ rfl).1
          have CA := hid (ATL.out s wr HWx.out)
          have s0 : (0 : Int) ≤ (k : Int) := by omega
          have s1 : (k : Int) < (m1 : Int) := by omega
          have s2 : ((k : Int)).toNat = k := by simp
          clear hx hsx hlx
          by_cases hneg : idxL (namesOf L) s.data.toList < 0
          · have HHit := hid (appK_hit HX1.out.1 (show idxL (namesOf L) x.l.nm < 0 by rw [← HX1.out.2]; exact hneg))
            have CN := hid (CBA.out s hsz wr.drew HWx.out.drew)
            generalize idxL (namesOf L) s.data.toList = ix at *
            generalize hoo : anyBelow L s.data.toList = oo at *
            have HOO := hid hoo
            have hcl16 : cul.length ≤ 16 := by have h := congrArg List.length HC.out; have := HLEN.out k; have h88 := H88.out; simp [lsOf] at h; omega
            have o0 := ((HKx.out.dr 1).2 0 _ rfl).1
            clear hoo
            go_wp2_with (go_at_call 83; refine (CA.out).mono ?_; rintro e w9 ⟨rfl, hw9⟩; have hw9 := hw9.symm; subst hw9)
            refine wp_region_let 11 (fun w' : World => w'.cell? ⟨w.heap.size + 1, 0, none⟩ = some (.slice A1 n1 k1) ∧ w'.cell? ⟨w.heap.size + 1, 1, none⟩ = some (.slice A2 n2 k2) ∧ w'.cell? ⟨w.heap.size + 1, 2, none⟩ = some (.int .i64 q)) (fun w' : World => w'.cell? ⟨bo, 0, none⟩ = some (.slice Ac cul.length cc)) (by kernel_rfl) ⟨b0, b1, b2⟩ o0 (fun hS => ?_)
            refine wpAnyL_take (i := 0) (oi := ?oi101) (v := ?v101) ?hi101 (by kernel_rfl) ?hf101 ?hr101 (by decide) ?hQ101 (Or.inl ⟨?hw101, ?hy101⟩) (⟨hS.1, fun h => hS.2 (by first | rfl | exact h)⟩) ?rest101
            case hi101 => simp only [List.getElem?_toArray, List.getElem?_cons_succ, List.getElem?_cons_zero]; rfl
            case hf101 => kernel_rfl
            case hr101 => kernel_rfl
            case hw101 => rfl
            case hy101 => (intro w hSw; (try dsimp only at hSw); go_simp; all_goals (first | done | with_reducible rfl))
            case hQ101 => exact fun _ _ _ h => h
            simp only [Act.put, List.setIfInBounds_toArray, List.set_cons_zero, List.set_cons_succ]
            refine wpAnyL_take (i := 2) (oi := ?oi102) (v := ?v102) ?hi102 (by kernel_rfl) ?hf102 ?hr102 (by decide) ?hQ102 (Or.inl ⟨?hw102, ?hy102⟩) (⟨hS.1, fun h => hS.2 (by first | rfl | exact h)⟩) ?rest102
            case hi102 => simp only [List.getElem?_toArray, List.getElem?_cons_succ, List.getElem?_cons_zero]; rfl
            case hf102 => kernel_rfl
            case hr102 => kernel_rfl
            case hw102 => rfl
            case hy102 => (intro w hSw; (try dsimp only at hSw); go_simp; all_goals (first | done | with_reducible rfl))
            case hQ102 => exact fun _ _ _ h => h
            simp only [Act.put, List.setIfInBounds_toArray, List.set_cons_zero, List.set_cons_succ]
            refine wpAnyL_take (i := 3) (oi := ?oi103) (v := ?v103) ?hi103 (by kernel_rfl) ?hf103 ?hr103 (by decide) ?hQ103 (Or.inl ⟨?hw103, ?hy103⟩) (⟨hS.1, fun h => hS.2 (by first | rfl | exact h)⟩) ?rest103
            case hi103 => simp only [List.getElem?_toArray, List.getElem?_cons_succ, List.getElem?_cons_zero]; rfl
            case hf103 => kernel_rfl
            case hr103 => kernel_rfl
            case hw103 => rfl
            case hy103 => (intro w hSw; (try dsimp only at hSw); go_simp; all_goals (first | done | with_reducible rfl))
            case hQ103 => exact fun _ _ _ h => h
            simp only [Act.put, List.setIfInBounds_toArray, List.set_cons_zero, List.set_cons_succ]
            refine wpAnyL_take (i := 4) (oi := ?oi104) (v := ?v104) ?hi104 (by kernel_rfl) ?hf104 ?hr104 (by decide) ?hQ104 (Or.inl ⟨?hw104, ?hy104⟩) (⟨hS.1, fun h => hS.2 (by first | rfl | exact h)⟩) ?rest104
            case hi104 => simp only [List.getElem?_toArray, List.getElem?_cons_succ, List.getElem?_cons_zero]; rfl
            case hf104 => kernel_rfl
            case hr104 => kernel_rfl
            case hw104 => rfl
            case hy104 => (intro w hSw; (try dsimp only at hSw); go_simp; all_goals (first | done | with_reducible rfl))
            case hQ104 => exact fun _ _ _ h => h
            simp only [Act.put, List.setIfInBounds_toArray, List.set_cons_zero, List.set_cons_succ]
            refine wpAnyL_take1 (i := 1) (oi := ?oi105) (om := ?om105) (v := ?v105) ?hi105 (by kernel_rfl) ?hf105 ?hr105 (by decide) ?hm105 ?hd105 (by rfl) ?hQ105 (Or.inl ⟨?hw105, ?hy105⟩) (⟨hS.1, fun h => hS.2 (by first | rfl | exact h)⟩) ?rest105
            case hi105 => simp only [List.getElem?_toArray, List.getElem?_cons_succ, List.getElem?_cons_zero]; rfl
            case hm105 => simp only [List.getElem?_toArray, List.getElem?_cons_succ, List.getElem?_cons_zero]; rfl
            case hd105 => kernel_rfl
            case hf105 => kernel_rfl
            case hr105 => kernel_rfl
            case hw105 => rfl
            case hy105 => (intro w hSw; (try dsimp only at hSw); go_simp; all_goals (first | done | with_reducible rfl))
            case hQ105 => exact fun _ _ _ h => h
            simp only [Act.put, List.setIfInBounds_toArray, List.set_cons_zero, List.set_cons_succ]
            refine wpAnyL_ready (rs := [5]) (by kernel_rfl) (by simp) ?_
            refine AllReadyL.cons (o := ?oi106) ?hi106 (fun K hK => ?step106) AllReadyL.nil
            case hi106 => simp only [List.getElem?_toArray, List.getElem?_cons_succ, List.getElem?_cons_zero]; rfl
            rw [if_pos (by rfl)]
            go_simp
            go_at_call 84
            refine (CN.out).mono ?_
            rintro e w5 ⟨rfl, hb5⟩
            have HR5 := hid ((HRx.out.dr).below hb5)
            have HK5 := hid ((HKx.out.dr 1).to hb5)
            have HBd := hid (HBx.out.drew)
            have HB5 := hid (HBd.out.trans (hb5.mono HBd.out.size))
            have hlw5 : w1.heap.size ≤ w5.heap.size := HB5.out.size
            have KB5 := KB1.out.to HB5.out
            refine hK.out _ _ ⟨⟨(KB5.2 0 _ rfl).1, (KB5.2 1 _ rfl).1, (KB5.2 2 _ rfl).1⟩, fun _ => (HK5.out.2 0 _ rfl).1⟩ (fun hS => ?_)
            obtain ⟨A5, c5, w6, hrun, ho4, hg4, hloc⟩ := run_addO w5 rfl HR5.out (by omega) s (!oo) hlw5
            obtain ⟨hR4, hoff⟩ := tree_appO rfl HR5.out s (!oo) ho4 hg4 hloc hlw5
            have hlo4 : ∀ z, (Value.slice Ac cul.length cc).ownBlock = some z → w1.heap.size ≤ z ∧ z < w5.heap.size := fun z hz => ((HR5.out.1 ⟨72, 6, cul.length, .slice Ac cul.length cc, cul.flatMap lcells⟩ (by rw [treeRows_eq]; simp [two])).lt z hz)
            have hne : some bo ≠ (Value.slice Ac cul.length cc).ownBlock := fun e => HNx.out ⟨72, 6, cul.length, .slice Ac cul.length cc, cul.flatMap lcells⟩ (by rw [treeRows_eq]; simp [two]) e.symm
            have hoffb := hoff bo HNx.out (by have := HK5.out.1; omega)
            have HK6 := hid (HK5.out.kept hg4 hne)
            have HR6 := hid (hR4.off (j := 0) (u := .slice A5 (cul.length + 1) c5) hoffb)
            have HN6 := hid hoffb
            have HB6 := hid (HB5.out.grown hg4 hlw5 (fun z hz => (hlo4 z hz).1))
            have HRun := hid hrun
            have KB6 := hid (KB1.out.to HB6.out)
            have hbow : bo < w5.heap.size := HK5.out.1
            have hb1w : w.heap.size + 1 < w5.heap.size := by omega
            clear hrun ho4 hg4 hloc hR4 hoff hlo4 hne hoffb hb5
            refine wpAnyL_take (i := 6) (oi := ?oi107) (v := ?v107) ?hi107 (by kernel_rfl) ?hf107 ?hr107 (by decide) ?hQ107 (Or.inl ⟨?hw107, ?hy107⟩) (⟨hS.1, fun h => hS.2 (by first | rfl | exact h)⟩) ?rest107
            case hi107 => simp only [List.getElem?_toArray, List.getElem?_cons_succ, List.getElem?_cons_zero]; rfl
            case hf107 => kernel_rfl
            case hr107 => kernel_rfl
            case hw107 => rfl
            case hy107 => (intro w hSw; (try dsimp only at hSw); go_simp; all_goals (first | done | with_reducible rfl))
            case hQ107 => exact fun _ _ _ h => h
            simp only [Act.put, List.setIfInBounds_toArray, List.set_cons_zero, List.set_cons_succ]
            refine wpAnyL_take (i := 7) (oi := ?oi108) (v := ?v108) ?hi108 (by kernel_rfl) ?hf108 ?hr108 (by decide) ?hQ108 (Or.inl ⟨?hw108, ?hy108⟩) (⟨hS.1, fun h => hS.2 (by first | rfl | exact h)⟩) ?rest108
            case hi108 => simp only [List.getElem?_toArray, List.getElem?_cons_succ, List.getElem?_cons_zero]; rfl
            case hf108 => kernel_rfl
            case hr108 => kernel_rfl
            case hw108 => rfl
            case hy108 => (intro w hSw; (try dsimp only at hSw); go_simp; all_goals (first | done | with_reducible rfl))
            case hQ108 => exact fun _ _ _ h => h
            simp only [Act.put, List.setIfInBounds_toArray, List.set_cons_zero, List.set_cons_succ]
            refine wpAnyL_ready (rs := [8]) (by kernel_rfl) (by simp) ?_
            refine AllReadyL.cons (o := ?oi109) ?hi109 (fun K hK => ?step109) AllReadyL.nil
            case hi109 => simp only [List.getElem?_toArray, List.getElem?_cons_succ, List.getElem?_cons_zero]; rfl
            rw [if_pos (by rfl)]
            go_simp
            refine hK.out _ _ ⟨⟨(World.cell?_alloc_past _ _ _ hb1w).trans (KB5.2 0 _ rfl).1, (World.cell?_alloc_past _ _ _ hb1w).trans (KB5.2 1 _ rfl).1, (World.cell?_alloc_past _ _ _ hb1w).trans (KB5.2 2 _ rfl).1⟩, fun _ => (World.cell?_alloc_past _ _ _ hbow).trans (HK5.out.2 0 _ rfl).1⟩ (fun hS => ?_)
            refine wpAnyL_ready (rs := [9]) (by kernel_rfl) (by simp) ?_
            refine AllReadyL.cons (o := ?oi110) ?hi110 (fun K hK => ?step110) AllReadyL.nil
            case hi110 => simp only [List.getElem?_toArray, List.getElem?_cons_succ, List.getElem?_cons_zero]; rfl
            rw [if_pos (by rfl)]
            refine wp_app rfl (by rfl) (by rfl) HRun.out ?_
            refine hK.out _ _ ⟨⟨(KB6.out.2 0 _ rfl).1, (KB6.out.2 1 _ rfl).1, (KB6.out.2 2 _ rfl).1⟩, fun _ => (HK6.out.2 0 _ rfl).1⟩ (fun hS => ?_)
            simp only [Act.put, List.setIfInBounds_toArray, List.set_cons_zero, List.set_cons_succ]
            refine wpAnyL_take (i := 10) (oi := ?oi111) (v := ?v111) ?hi111 (by kernel_rfl) ?hf111 ?hr111 (by decide) ?hQ111 (Or.inl ⟨?hw111, ?hy111⟩) (⟨hS.1, fun h => hS.2 (by first | rfl | exact h)⟩) ?rest111
            case hi111 => simp only [List.getElem?_toArray, List.getElem?_cons_succ, List.getElem?_cons_zero]; rfl
            case hf111 => kernel_rfl
            case hr111 => kernel_rfl
            case hw111 => rfl
            case hy111 => (intro w hSw; (try dsimp only at hSw); go_simp; all_goals (first | done | with_reducible rfl))
            case hQ111 => exact fun _ _ _ h => h
            simp only [Act.put, List.setIfInBounds_toArray, List.set_cons_zero, List.set_cons_succ]
            have o9 := (HK6.out.2 0 _ rfl).1
            have o9f := (HK6.out.2 0 _ rfl).2
            have hbb : bo ≠ w.heap.size + 1 := by omega
            refine wpAnyL_ready (rs := [11]) (by kernel_rfl) (by simp) ?_
            refine AllReadyL.cons (o := ?oi112) ?hi112 (fun K hK => ?step112) AllReadyL.nil
            case hi112 => simp only [List.getElem?_toArray, List.getElem?_cons_succ, List.getElem?_cons_zero]; rfl
            rw [if_pos (by rfl)]
            go_simp
            refine hK.out _ _ ⟨⟨(World.cell?_setCell_far _ _ _ _ hbb).trans (KB6.out.2 0 _ rfl).1, (World.cell?_setCell_far _ _ _ _ hbb).trans (KB6.out.2 1 _ rfl).1, (World.cell?_setCell_far _ _ _ _ hbb).trans (KB6.out.2 2 _ rfl).1⟩, fun h => absurd h (by decide)⟩ (fun hS => ?_)
            refine wpAnyL_done (by kernel_rfl) ?_ _
            clear hS o0 o9 o9f KB5 a0 b0 b1 b2 c0
            go_wp2_with fail
            go_roundw
            case rel =>
              refine ⟨k + 1, cul ++ [mkVo s.data.toList (!oo)], A5, c5, _, by go_num, rfl, by omega, ?_, ?_, ?_, ?_, HB6.out.setCell hbo1 _⟩
              · show lsOf _ = _
                rw [HHit.out, ← HC.out]
                unfold lsOf
                rw [List.map_append]
                congr 1
                show [({ mkL s.data.toList with off := !oo } : Lgr)] = [offL L x.l]
                unfold offL
                rw [← HX1.out.2, HOO.out]
              · have h9 := HR6.out
                exact hid (by simpa using h9)
              · have h9 := HK6.out.set 0 (.slice A5 (cul.length + 1) c5)
                exact hid (by simpa using h9)
              · have h9 := HN6.out
                exact hid (by simpa using h9)
            case measure => simp [intOf]; omega
          · have HMiss := hid (appK_miss HX1.out.1 (show ¬ idxL (namesOf L) x.l.nm < 0 by rw [← HX1.out.2]; exact hneg))
            generalize idxL (namesOf L) s.data.toList = ix at *
            go_wp2_with (go_at_call 83; refine (CA.out).mono ?_; rintro e w9 ⟨rfl, hw9⟩; have hw9 := hw9.symm; subst hw9)
            go_roundw
            case rel => exact ⟨k + 1, cul, Ac, cc, _, by go_num, rfl, by omega, by show lsOf cul = _; rw [HMiss.out]; exact HC.out, HRx.out, HKx.out, HNx.out, HBx.out⟩
            case measure => simp [intOf]; omega
        · obtain rfl : k = m1 := by omega
          have HCC := hid (show lsOf cul = appK La L La.length by rw [← HMA.out]; exact HC.out)
          have HS5 := hid (show TreeS (treeRows cul.length (.slice Ac cul.length cc) cul hs'.length (.slice A4 hs'.length c4) hs') (.agg #[.slice Ac cul.length cc, .slice A4 hs'.length c4, .int .i64 q]) (appK La L La.length) H q from ⟨_, _, cul, hs', rfl, HCC.out, HH.out, rfl⟩)
          have CK := hid (specChecked_c (HS5.out.at_ HRx.out HD.out) (Nat.le_refl _))
          have b0 := (HKx.out.2 0 _ rfl).1
          have b1 := (HKx.out.2 1 _ rfl).1
          have b2 := (HKx.out.2 2 _ rfl).1
          have KR9 := hid (KR1.out.to HBx.out)
          cases hy : treeOk (appK La L La.length) H q with
          | false =>
            rw [hy] at CK
            have HN := hid (show X = none by rw [HX.out]; unfold ifOk; rw [hy]; rfl)
            clear hy
            go_wp2_with fail
            refine (CK.out).mono ?_
            rintro e w5 ⟨rfl, hb5⟩
            have KR5 := hid (KR9.out.to hb5)
            have HB5 := hid (HWx.out.trans (hb5.mono HWx.out.size))
            clear hb5 b0 b1 b2 a0
            obtain ⟨q0c, q0f⟩ := KR5.out.2 0 _ rfl
            obtain ⟨q1c, q1f⟩ := KR5.out.2 1 _ rfl
            obtain ⟨q2c, q2f⟩ := KR5.out.2 2 _ rfl
            go_wp2_with fail
            have RB := ((KR5.out.set 0 (.slice none 0 0)).set 1 (.slice none 0 0)).set 2 (.int .i64 0)
            have f0 := (RB.2 0 _ rfl).1
            have f1 := (RB.2 1 _ rfl).1
            have f2 := (RB.2 2 _ rfl).1
            refine bodyPost_ret (v := .tuple #[.agg #[.slice none 0 0, .slice none 0 0, .int .i64 0], .bool false]) (by simp [results, Tryz.results40, go_sem, f0, f1, f2]) rfl ?_
            refine postO_none HN.out rfl ?_
            iterate 3 refine Below.setCell ?_ (by simp; try omega) _
            exact HB5.out
          | true =>
            rw [hy] at CK
            have HN := hid (show X = some (appK La L La.length, H, q) by rw [HX.out]; unfold ifOk; rw [hy]; rfl)
            clear hy
            go_wp2_with fail
            refine (CK.out).mono ?_
            rintro e w5 ⟨rfl, hb5⟩
            have KR5 := hid (KR9.out.to hb5)
            have HB5 := hid (HWx.out.trans (hb5.mono HWx.out.size))
            have HR5 := hid (HRx.out.below hb5)
            clear hb5 b0 b1 b2 a0
            obtain ⟨q0c, q0f⟩ := KR5.out.2 0 _ rfl
            obtain ⟨q1c, q1f⟩ := KR5.out.2 1 _ rfl
            obtain ⟨q2c, q2f⟩ := KR5.out.2 2 _ rfl
            go_wp2_with fail
            have RB := ((KR5.out.set 0 (.slice Ac cul.length cc)).set 1 (.slice A4 hs'.length c4)).set 2 (.int .i64 q)
            have f0 := (RB.2 0 _ rfl).1
            have f1 := (RB.2 1 _ rfl).1
            have f2 := (RB.2 2 _ rfl).1
            refine bodyPost_ret (v := .tuple #[.agg #[.slice Ac cul.length cc, .slice A4 hs'.length c4, .int .i64 q], .bool true]) (by simp [results, Tryz.results40, go_sem, f0, f1, f2]) rfl ?_
            rw [HN.out]
            refine ⟨_, _, rfl, HS5.out, ?_, ?_⟩
            · refine Rows.base ?_ (show w.heap.size ≤ w1.heap.size by omega)
              iterate 3 refine Rows.low ?_ (by omega)
              exact HR5.out
            · iterate 3 refine Below.setCell ?_ (by simp; try omega) _
              exact HB5.out
end Go.Proofs.YtioegkcekbkblaaGreat
