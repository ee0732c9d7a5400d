/-
  WALK: the law FnExplainRecord. By gen_sr.py.
-/
import Derived.Test.YtioegkcekbkblaaGreatZxSR2
import Derived.Test.YtioegkcekbkblaaGreatZxE25
import Derived.Test.YtioegkcekbkblaaGreatZxSN12
import Derived.Test.YtioegkcekbkblaaGreatZxEqReason
import Derived.Test.YtioegkcekbkblaaGreatZxLookI
import Derived.Deep.QuietTactic
namespace Go.Proofs.YtioegkcekbkblaaGreat
open Go.RowKit Go.Proofs.YtioegkcekbkblaaGreat.Nm
set_option linter.unusedSimpArgs false
set_option linter.unusedVariables false

set_option maxHeartbeats 8000000 in
set_option maxRecDepth 100000 in
theorem walk_FnExplainRecord (a0 : Option Addr) (len0 cap0 : Nat) (z0 : List Int) (w : World) (w0 : IsRow .u8 w a0 len0 cap0 z0) :
    Calls Tryz.prog 6 #[.slice a0 len0 cap0] w (BoolPost w true) := by
  have hb0 := w0.leT
  by_cases h1 : (1048576 : Int) < (len0 : Int)
  · go_enter Tryz.func6, Tryz.ntmps6
    go_wp2_with fail
    go_ret
    exact ⟨rfl, Below.refl _ _⟩
  have DR := hid (drawExplainRecord_c a0 len0 cap0 z0 w w0)
  clear w0
  go_enter Tryz.func6, Tryz.ntmps6
  go_wp2_with fail
  refine DR.out.mono ?_
  rintro e w1 ⟨v, rs, L, H, q, nm, tx, lv, sq, rfl, hs, hsm, ⟨hnm, htx⟩, hlv, hsq, hr, hb⟩
  obtain ⟨A1, n1, k1, A2, n2, k2, rfl, hn1, hn2⟩ := hs.form_ hr
  have hd := sm_fit hsm (by omega)
  have TI0 := hs.at_ hr hd
  have hbx : Below w1.heap.size w1 (((w1.alloc (.cells #[.slice A1 n1 k1, .slice A2 n2 k2, .int .i64 q] 26)).alloc (.cells #[.string nm, .int .i64 lv, .string tx, .int .i64 sq] 28))) := ((Below.refl _ _).alloc (Nat.le_refl _) _).alloc (by simp) _
  have TI := hid (TI0.below hbx (Nat.le_refl _))
  have KB := hid ((Blk.new w1 #[.slice A1 n1 k1, .slice A2 n2 k2, .int .i64 q] 26).alloc (.cells #[.string nm, .int .i64 lv, .string tx, .int .i64 sq] 28))
  have KR := hid (Blk.new (w1.alloc (.cells #[.slice A1 n1 k1, .slice A2 n2 k2, .int .i64 q] 26)) #[.string nm, .int .i64 lv, .string tx, .int .i64 sq] 28)
  simp only [World.size_alloc] at KR
  have HB := hid (hb.trans (hbx.mono hb.size))
  have hl1 : w1.heap.size < (((w1.alloc (.cells #[.slice A1 n1 k1, .slice A2 n2 k2, .int .i64 q] 26)).alloc (.cells #[.string nm, .int .i64 lv, .string tx, .int .i64 sq] 28))).heap.size := by simp; omega
  have HL := hid (And.intro hn1 (And.intro hn2 (And.intro hsm.2.2.1 (And.intro hsm.1 hsm.2.1.1))))
  replace hd := hid hd
  clear hs hr hb hn1 hn2 hsm TI0 hbx DR hlv hsq
  go_wp2_with fail
  generalize hbb : w1.heap.size = bb at *
  generalize ((w1.alloc (.cells #[.slice A1 n1 k1, .slice A2 n2 k2, .int .i64 q] 26)).alloc (.cells #[.string nm, .int .i64 lv, .string tx, .int .i64 sq] 28)) = w2 at *
  clear hbb
  have HW := hid (Below.refl w2.heap.size w2)
  have TT := hid (fun (W : World) (hW : Below w2.heap.size w2 W) => (And.intro (TI.out.below hW (Nat.le_of_lt hl1)) (Nat.le_trans (Nat.le_of_lt hl1) hW.size)))
  obtain ⟨⟨d0, _⟩, ⟨d1, _⟩, ⟨d2, _⟩⟩ := (And.intro ((KB.out.to HW.out).2 0 _ rfl) (And.intro ((KB.out.to HW.out).2 1 _ rfl) ((KB.out.to HW.out).2 2 _ rfl)))
  obtain ⟨⟨r0, _⟩, ⟨r1, _⟩, ⟨r2, _⟩, ⟨r3, _⟩⟩ := (And.intro ((KR.out.to HW.out).2 0 _ rfl) (And.intro ((KR.out.to HW.out).2 1 _ rfl) (And.intro ((KR.out.to HW.out).2 2 _ rfl) ((KR.out.to HW.out).2 3 _ rfl))))
  have hz1 : nm.size ≤ 1048576 := by omega
  have hz2 : tx.size ≤ 1048576 := by omega
  have CI := hid (fun (W : World) (hW : Below w2.heap.size w2 W) => implExplainRecord_c nm tx lv sq (TT.out W hW).1 (TT.out W hW).2 hz1 hz2)
  have CS := hid (fun (W : World) (hW : Below w2.heap.size w2 W) => specExplainRecord_c nm tx lv sq (TT.out W hW).1 (TT.out W hW).2 hz1 hz2)
  have CT := hid (fun (W : World) (hW : Below w2.heap.size w2 W) => implValidTreeX_c (TT.out W hW).1 (TT.out W hW).2)
  have CF := hid (fun (W : World) (hW : Below w2.heap.size w2 W) => implSendRecord_c nm tx lv sq (TT.out W hW).1 (TT.out W hW).2 hz1 hz2)
  have CP := hid (fun (W : World) (hW : Below w2.heap.size w2 W) => implSpotsOf_c nm (TT.out W hW).1 (TT.out W hW).2 (by unfold maxLen; omega))
  obtain ⟨X, hX⟩ : ∃ X, whyX L H q ⟨nm.data.toList, lv, tx.data.toList, sq⟩ = X := ⟨_, rfl⟩
  rw [hX] at CI CS
  generalize hok : treeOk L H q = ok at *
  generalize hrok : recOk ⟨nm.data.toList, lv, tx.data.toList, sq⟩ = rok at *
  replace hok := hid hok
  replace hrok := hid hrok
  replace hX := hid hX
  obtain ⟨OC, hOC⟩ : ∃ OC, ocX L H q ⟨nm.data.toList, lv, tx.data.toList, sq⟩ = OC := ⟨_, rfl⟩
  have hXo : X = whyOf OC := by rw [← hX.out, ← hOC]; rfl
  have hYo : sendX L H q ⟨nm.data.toList, lv, tx.data.toList, sq⟩ = sentOf nm.data.toList tx.data.toList sq OC := by rw [← hOC]; rfl
  rw [hYo] at CF
  have FL := hid (fun (h : treeOk L H q = true) (hr : recOk ⟨nm.data.toList, lv, tx.data.toList, sq⟩ = true) => (show OC.length = 1 ∨ OC.length = (spotsT L H q nm.data.toList).length by rw [← hOC]; exact oc_len h hr))
  have hO30 : OC.length ≤ 30 := by rw [← hOC]; exact ocX_len L H q _
  have hXl : X.length = OC.length := by rw [hXo]; unfold whyOf; rw [List.length_map]
  rw [hok.out, hrok.out] at FL
  have hP30 := spotsT_len L H q nm.data.toList
  generalize spotsT L H q nm.data.toList = P at *
  obtain ⟨Y, hY⟩ : ∃ Y, sentOf nm.data.toList tx.data.toList sq OC = Y := ⟨_, rfl⟩
  rw [hY] at CF
  have FY := hid (fun (k : Nat) (o : Oc) (h : OC[k]? = some o) (hk : o.kd = 0) => (show Y[atK OC k]? = some (sent1 nm.data.toList tx.data.toList sq o) by rw [← hY]; exact sent_at h hk))
  have FZ := hid (fun (k : Nat) (h : OC.length ≤ k) => (show atK OC k = Y.length by rw [← hY]; exact atK_end h))
  have hY30 : Y.length ≤ 30 := by rw [← hY]; exact Nat.le_trans (sentOf_len _ _ _ _) hO30
  replace hXo := hid hXo
  replace hXl := hid hXl
  clear hOC hYo hY
  go_wp2_with fail
  refine (CI.out _ HW.out).mono ?_
  rintro e w3 ⟨v3, rfl, ho3, hb⟩
  obtain ⟨A3, c3, rfl, hc3, hm3⟩ := (Sl.of_own ho3).form
  unfold maxLen at hm3
  replace HW := hid (HW.out.trans (hb.mono HW.out.size))
  clear hb
  clear d0 d1 d2 r0 r1 r2 r3
  obtain ⟨⟨d0, _⟩, ⟨d1, _⟩, ⟨d2, _⟩⟩ := (And.intro ((KB.out.to HW.out).2 0 _ rfl) (And.intro ((KB.out.to HW.out).2 1 _ rfl) ((KB.out.to HW.out).2 2 _ rfl)))
  obtain ⟨⟨r0, _⟩, ⟨r1, _⟩, ⟨r2, _⟩, ⟨r3, _⟩⟩ := (And.intro ((KR.out.to HW.out).2 0 _ rfl) (And.intro ((KR.out.to HW.out).2 1 _ rfl) (And.intro ((KR.out.to HW.out).2 2 _ rfl) ((KR.out.to HW.out).2 3 _ rfl))))
  have O3 := hid ho3
  have HV := hid (Below.refl w3.heap.size w3)
  clear ho3
  go_wp2_with fail
  refine (CS.out _ HW.out).mono ?_
  rintro e w4 ⟨v4, rfl, ho4, hb⟩
  obtain ⟨A4, c4, rfl, _, _⟩ := (Sl.of_own ho4).form
  have CQ := hid (equalReasons_c _ _ X.length w4.heap.size X w4 (((((Sl.of_own O3.out).below HV.out (Nat.le_refl _)).more HV.out.size).below hb (Nat.le_refl _)).more hb.size) (Sl.of_own ho4) (Nat.le_refl _))
  replace HW := hid (HW.out.trans (hb.mono HW.out.size))
  replace HV := hid (HV.out.trans (hb.mono HV.out.size))
  clear hb ho4
  clear d0 d1 d2 r0 r1 r2 r3
  obtain ⟨⟨d0, _⟩, ⟨d1, _⟩, ⟨d2, _⟩⟩ := (And.intro ((KB.out.to HW.out).2 0 _ rfl) (And.intro ((KB.out.to HW.out).2 1 _ rfl) ((KB.out.to HW.out).2 2 _ rfl)))
  obtain ⟨⟨r0, _⟩, ⟨r1, _⟩, ⟨r2, _⟩, ⟨r3, _⟩⟩ := (And.intro ((KR.out.to HW.out).2 0 _ rfl) (And.intro ((KR.out.to HW.out).2 1 _ rfl) (And.intro ((KR.out.to HW.out).2 2 _ rfl) ((KR.out.to HW.out).2 3 _ rfl))))
  go_wp2_with fail
  refine (CQ.out).mono ?_
  rintro e w5 ⟨rfl, hb⟩
  replace HW := hid (HW.out.trans (hb.mono HW.out.size))
  replace HV := hid (HV.out.trans (hb.mono HV.out.size))
  clear hb
  clear d0 d1 d2 r0 r1 r2 r3
  obtain ⟨⟨d0, _⟩, ⟨d1, _⟩, ⟨d2, _⟩⟩ := (And.intro ((KB.out.to HW.out).2 0 _ rfl) (And.intro ((KB.out.to HW.out).2 1 _ rfl) ((KB.out.to HW.out).2 2 _ rfl)))
  obtain ⟨⟨r0, _⟩, ⟨r1, _⟩, ⟨r2, _⟩, ⟨r3, _⟩⟩ := (And.intro ((KR.out.to HW.out).2 0 _ rfl) (And.intro ((KR.out.to HW.out).2 1 _ rfl) (And.intro ((KR.out.to HW.out).2 2 _ rfl) ((KR.out.to HW.out).2 3 _ rfl))))
  clear CQ
  go_wp2_with fail
  refine (CT.out _ HW.out).mono ?_
  rintro e w6 ⟨rfl, hb⟩
  replace HW := hid (HW.out.trans (hb.mono HW.out.size))
  replace HV := hid (HV.out.trans (hb.mono HV.out.size))
  clear hb
  clear d0 d1 d2 r0 r1 r2 r3
  obtain ⟨⟨d0, _⟩, ⟨d1, _⟩, ⟨d2, _⟩⟩ := (And.intro ((KB.out.to HW.out).2 0 _ rfl) (And.intro ((KB.out.to HW.out).2 1 _ rfl) ((KB.out.to HW.out).2 2 _ rfl)))
  obtain ⟨⟨r0, _⟩, ⟨r1, _⟩, ⟨r2, _⟩, ⟨r3, _⟩⟩ := (And.intro ((KR.out.to HW.out).2 0 _ rfl) (And.intro ((KR.out.to HW.out).2 1 _ rfl) (And.intro ((KR.out.to HW.out).2 2 _ rfl) ((KR.out.to HW.out).2 3 _ rfl))))
  cases ok with
  | false =>
    go_wp2_with fail
    refine (CS.out _ HW.out).mono ?_
    rintro e w7 ⟨v7, rfl, ho7, hb⟩
    obtain ⟨A7, c7, rfl, _, _⟩ := (Sl.of_own ho7).form
    have CQ := hid (equalReasons_c _ _ X.length w7.heap.size X w7 (((((Sl.of_own O3.out).below HV.out (Nat.le_refl _)).more HV.out.size).below hb (Nat.le_refl _)).more hb.size) (Sl.of_own ho7) (Nat.le_refl _))
    replace HW := hid (HW.out.trans (hb.mono HW.out.size))
    replace HV := hid (HV.out.trans (hb.mono HV.out.size))
    clear hb ho7
    clear d0 d1 d2 r0 r1 r2 r3
    obtain ⟨⟨d0, _⟩, ⟨d1, _⟩, ⟨d2, _⟩⟩ := (And.intro ((KB.out.to HW.out).2 0 _ rfl) (And.intro ((KB.out.to HW.out).2 1 _ rfl) ((KB.out.to HW.out).2 2 _ rfl)))
    obtain ⟨⟨r0, _⟩, ⟨r1, _⟩, ⟨r2, _⟩, ⟨r3, _⟩⟩ := (And.intro ((KR.out.to HW.out).2 0 _ rfl) (And.intro ((KR.out.to HW.out).2 1 _ rfl) (And.intro ((KR.out.to HW.out).2 2 _ rfl) ((KR.out.to HW.out).2 3 _ rfl))))
    go_wp2_with fail
    refine (CQ.out).mono ?_
    rintro e w8 ⟨rfl, hb⟩
    replace HW := hid (HW.out.trans (hb.mono HW.out.size))
    replace HV := hid (HV.out.trans (hb.mono HV.out.size))
    clear hb
    clear d0 d1 d2 r0 r1 r2 r3
    obtain ⟨⟨d0, _⟩, ⟨d1, _⟩, ⟨d2, _⟩⟩ := (And.intro ((KB.out.to HW.out).2 0 _ rfl) (And.intro ((KB.out.to HW.out).2 1 _ rfl) ((KB.out.to HW.out).2 2 _ rfl)))
    obtain ⟨⟨r0, _⟩, ⟨r1, _⟩, ⟨r2, _⟩, ⟨r3, _⟩⟩ := (And.intro ((KR.out.to HW.out).2 0 _ rfl) (And.intro ((KR.out.to HW.out).2 1 _ rfl) (And.intro ((KR.out.to HW.out).2 2 _ rfl) ((KR.out.to HW.out).2 3 _ rfl))))
    clear CQ
    go_wp2_with fail
    go_ret
    exact ⟨rfl, HB.out.trans (HW.out.mono HB.out.size)⟩
  | true =>
    have CV := hid (fun (W : World) => (show Calls Tryz.prog 16 #[.slice (some ⟨W.heap.size, 0, none⟩) 1 1] (W.alloc (.cells #[.string nm, .int .i64 lv, .string tx, .int .i64 sq] 28)) (BoolPost (W.alloc (.cells #[.string nm, .int .i64 lv, .string tx, .int .i64 sq] 28)) rok) from by have h9 := recLit_c W nm tx lv sq hz1 hz2; rw [hrok.out] at h9; exact h9))
    go_wp2_with fail
    refine (CV.out _).mono ?_
    rintro e w7 ⟨rfl, hb9⟩
    have hb := (show Below w6.heap.size w6 w7 from ((Below.refl _ _).alloc (Nat.le_refl _) _).trans (hb9.mono (by simp)))
    clear hb9
    replace HW := hid (HW.out.trans (hb.mono HW.out.size))
    replace HV := hid (HV.out.trans (hb.mono HV.out.size))
    clear hb
    clear d0 d1 d2 r0 r1 r2 r3
    obtain ⟨⟨d0, _⟩, ⟨d1, _⟩, ⟨d2, _⟩⟩ := (And.intro ((KB.out.to HW.out).2 0 _ rfl) (And.intro ((KB.out.to HW.out).2 1 _ rfl) ((KB.out.to HW.out).2 2 _ rfl)))
    obtain ⟨⟨r0, _⟩, ⟨r1, _⟩, ⟨r2, _⟩, ⟨r3, _⟩⟩ := (And.intro ((KR.out.to HW.out).2 0 _ rfl) (And.intro ((KR.out.to HW.out).2 1 _ rfl) (And.intro ((KR.out.to HW.out).2 2 _ rfl) ((KR.out.to HW.out).2 3 _ rfl))))
    cases rok with
    | false =>
      go_wp2_with fail
      refine (CS.out _ HW.out).mono ?_
      rintro e w8 ⟨v8, rfl, ho8, hb⟩
      obtain ⟨A8, c8, rfl, _, _⟩ := (Sl.of_own ho8).form
      have CQ := hid (equalReasons_c _ _ X.length w8.heap.size X w8 (((((Sl.of_own O3.out).below HV.out (Nat.le_refl _)).more HV.out.size).below hb (Nat.le_refl _)).more hb.size) (Sl.of_own ho8) (Nat.le_refl _))
      replace HW := hid (HW.out.trans (hb.mono HW.out.size))
      replace HV := hid (HV.out.trans (hb.mono HV.out.size))
      clear hb ho8
      clear d0 d1 d2 r0 r1 r2 r3
      obtain ⟨⟨d0, _⟩, ⟨d1, _⟩, ⟨d2, _⟩⟩ := (And.intro ((KB.out.to HW.out).2 0 _ rfl) (And.intro ((KB.out.to HW.out).2 1 _ rfl) ((KB.out.to HW.out).2 2 _ rfl)))
      obtain ⟨⟨r0, _⟩, ⟨r1, _⟩, ⟨r2, _⟩, ⟨r3, _⟩⟩ := (And.intro ((KR.out.to HW.out).2 0 _ rfl) (And.intro ((KR.out.to HW.out).2 1 _ rfl) (And.intro ((KR.out.to HW.out).2 2 _ rfl) ((KR.out.to HW.out).2 3 _ rfl))))
      go_wp2_with fail
      refine (CQ.out).mono ?_
      rintro e w9 ⟨rfl, hb⟩
      replace HW := hid (HW.out.trans (hb.mono HW.out.size))
      replace HV := hid (HV.out.trans (hb.mono HV.out.size))
      clear hb
      clear d0 d1 d2 r0 r1 r2 r3
      obtain ⟨⟨d0, _⟩, ⟨d1, _⟩, ⟨d2, _⟩⟩ := (And.intro ((KB.out.to HW.out).2 0 _ rfl) (And.intro ((KB.out.to HW.out).2 1 _ rfl) ((KB.out.to HW.out).2 2 _ rfl)))
      obtain ⟨⟨r0, _⟩, ⟨r1, _⟩, ⟨r2, _⟩, ⟨r3, _⟩⟩ := (And.intro ((KR.out.to HW.out).2 0 _ rfl) (And.intro ((KR.out.to HW.out).2 1 _ rfl) (And.intro ((KR.out.to HW.out).2 2 _ rfl) ((KR.out.to HW.out).2 3 _ rfl))))
      clear CQ
      go_wp2_with fail
      go_ret
      exact ⟨rfl, HB.out.trans (HW.out.mono HB.out.size)⟩
    | true =>
      replace FL := hid (FL.out (by trivial) (by trivial))
      go_wp2_with fail
      refine (CF.out _ HW.out).mono ?_
      rintro e w8 ⟨vP, rfl, hoP, hb⟩
      obtain ⟨AP, cP, rfl, hcP, hmP⟩ := (Sl.of_own hoP).form
      unfold maxLen at hmP
      replace HW := hid (HW.out.trans (hb.mono HW.out.size))
      replace HV := hid (HV.out.trans (hb.mono HV.out.size))
      clear hb
      clear d0 d1 d2 r0 r1 r2 r3
      obtain ⟨⟨d0, _⟩, ⟨d1, _⟩, ⟨d2, _⟩⟩ := (And.intro ((KB.out.to HW.out).2 0 _ rfl) (And.intro ((KB.out.to HW.out).2 1 _ rfl) ((KB.out.to HW.out).2 2 _ rfl)))
      obtain ⟨⟨r0, _⟩, ⟨r1, _⟩, ⟨r2, _⟩, ⟨r3, _⟩⟩ := (And.intro ((KR.out.to HW.out).2 0 _ rfl) (And.intro ((KR.out.to HW.out).2 1 _ rfl) (And.intro ((KR.out.to HW.out).2 2 _ rfl) ((KR.out.to HW.out).2 3 _ rfl))))
      have OP := hid hoP
      have HP := hid (Below.refl w8.heap.size w8)
      clear hoP
      generalize hm : Y.length = m at *
      generalize hn3 : X.length = n3 at *
      replace hm := hid hm
      replace hn3 := hid hn3
      go_wp2_with fail
      go_loopw [7, 8] (fun av kv wr => ∃ k : Nat, av = .int .i64 (atK OC k : Nat) ∧ kv = .int .i64 k ∧ k ≤ n3 ∧ Hid (Below w2.heap.size w2 wr) ∧ Hid (Below w3.heap.size w3 wr) ∧ Hid (Below w8.heap.size w8 wr)) (fun _ kv _ => n3 - (intOf kv).toNat)
      case atStart => exact ⟨0, rfl, rfl, Nat.zero_le _, HW.out, HV.out, HP.out⟩
      case round =>
        obtain ⟨k, rfl, rfl, hk, HWr, HVr, HPr⟩ := hrel
        clear d0 d1 d2 r0 r1 r2 r3
        by_cases hkn : k < n3
        · obtain ⟨b, o, kd, lg, hd3, rfl, hbB, hx, g0, g1, g2⟩ := rscells_at ((Sl.of_own O3.out).below HVr.out (Nat.le_refl _)) hkn
          obtain ⟨oc, hoc⟩ : ∃ oc, OC[k]? = some oc := ⟨_, List.getElem?_eq_getElem (by rw [← hXl.out]; exact hkn)⟩
          have hxo : (⟨oc.kd, oc.lg, oc.hd⟩ : Rsn) = ⟨kd, lg.data.toList, hd3.data.toList⟩ := by
            rw [hXo.out] at hx
            unfold whyOf at hx
            rw [List.getElem?_map, hoc] at hx
            exact Option.some.inj hx
          simp only [Rsn.mk.injEq] at hxo
          obtain ⟨x1, x2, x3⟩ := hxo
          have hst := atK_step hoc
          have hka := atK_le OC k
          have s0 : (0 : Int) ≤ (k : Int) := by omega
          have s1 : (k : Int) < (n3 : Int) := by omega
          have s2 : ((k : Int)).toNat = k := by simp
          by_cases hk0 : kd = 0
          · subst hk0
            have hy := FY.out k oc hoc x1
            have ham : atK OC k < m := by have h9 := (List.getElem?_eq_some_iff.1 hy).1; rw [hm.out] at h9; exact h9
            rw [if_pos x1] at hst
            have HN := hid (show (atK OC (k + 1) : Int) = (atK OC k : Int) + 1 by rw [hst]; omega)
            generalize hqa : atK OC k = a at *
            obtain ⟨b2, o2, lg2, hd2, nm2, lv2, tx2, sq2, rfl, hbB2, hy2, y0, y1, y2, y3, y4, y5⟩ := sncells_at ((Sl.of_own OP.out).below HPr.out (Nat.le_refl _)) ham
            have hyy : (⟨lg2.data.toList, hd2.data.toList, ⟨nm2.data.toList, lv2, tx2.data.toList, sq2⟩⟩ : Snt) = sent1 nm.data.toList tx.data.toList sq oc := Option.some.inj (hy2.symm.trans hy)
            have e1 := eq_true_of (a := lg2) (b := lg) (by have h9 := congrArg Snt.lg hyy; exact h9.trans x2)
            have e2 := eq_true_of (a := hd2) (b := hd3) (by have h9 := congrArg Snt.hd hyy; exact h9.trans x3)
            have t0 : (0 : Int) ≤ (a : Int) := by omega
            have t1 : (a : Int) < (m : Int) := by omega
            have t2 : ((a : Int)).toNat = a := by simp
            clear hx hoc x1 x2 x3 hst hy hy2 hyy hqa y2 y3 y4 y5
            go_wp2_with fail
            go_quiet (fail)
            go_wp2_with fail
            go_roundw
            case rel => exact ⟨k + 1, by rw [HN.out], by go_num, by omega, below_dr HWr.out _, below_dr HVr.out _, below_dr HPr.out _⟩
            case measure => simp [intOf]; omega
          · have hb0 : (kd == 0) = false := by simpa using hk0
            rw [if_neg (by rw [x1]; exact hk0)] at hst
            have HN := hid (show atK OC (k + 1) = atK OC k by omega)
            clear hx hoc x1 x2 x3 hst
            go_wp2_with fail
            go_roundw
            case rel => exact ⟨k + 1, by rw [HN.out], by go_num, by omega, HWr.out, HVr.out, HPr.out⟩
            case measure => simp [intOf]; omega
        · have hae := FZ.out k (by rw [← hXl.out]; omega)
          try rw [hm.out] at hae
          rw [hae]
          have hb0 : ((m : Int) == (m : Int)) = true := by simp
          have hFL := FL.out
          rw [← hXl.out] at hFL
          obtain ⟨⟨d0, _⟩, ⟨d1, _⟩, ⟨d2, _⟩⟩ := (And.intro ((KB.out.to HWr.out).2 0 _ rfl) (And.intro ((KB.out.to HWr.out).2 1 _ rfl) ((KB.out.to HWr.out).2 2 _ rfl)))
          obtain ⟨⟨r0, _⟩, ⟨r1, _⟩, ⟨r2, _⟩, ⟨r3, _⟩⟩ := (And.intro ((KR.out.to HWr.out).2 0 _ rfl) (And.intro ((KR.out.to HWr.out).2 1 _ rfl) (And.intro ((KR.out.to HWr.out).2 2 _ rfl) ((KR.out.to HWr.out).2 3 _ rfl))))
          by_cases h1 : n3 = 1
          · have hb1 : ((n3 : Int) == 1) = true := by simp; omega
            clear hFL h1
            go_wp2_with fail
            go_ret
            exact ⟨rfl, HB.out.trans (HWr.out.mono HB.out.size)⟩
          · have hb1 : ((n3 : Int) == 1) = false := by simp; omega
            have h2 : n3 = P.length := hFL.resolve_left h1
            have hb2 : ((n3 : Int) == (P.length : Int)) = true := by rw [h2]; simp
            clear hFL h1 h2
            generalize P.length = mp at *
            go_wp2_with fail
            refine (CP.out _ HWr.out).mono ?_
            rintro e w70 ⟨v70, rfl, ho70, hb⟩
            obtain ⟨A70, c70, rfl, _, _⟩ := (Sl.of_own ho70).form
            have HW70 := hid (HWr.out.trans (hb.mono HWr.out.size))
            clear hb ho70
            go_wp2_with fail
            go_ret
            exact ⟨rfl, HB.out.trans (HW70.out.mono HB.out.size)⟩
end Go.Proofs.YtioegkcekbkblaaGreat
