/-
  WALK: the law FnSendRecord. By gen_sr.py.
-/
import Derived.Test.YtioegkcekbkblaaGreatSR2
import Derived.Test.YtioegkcekbkblaaGreatE25
import Derived.Test.YtioegkcekbkblaaGreatSN9
import Derived.Test.YtioegkcekbkblaaGreatEqSent
import Derived.Test.YtioegkcekbkblaaGreatLookI
import Derived.Deep.QuietTactic
namespace Go.Proofs.YtioegkcekbkblaaGreat
open Go.RowKit Go.Proofs.YtioegkcekbkblaaGreat.Nm
set_option linter.unusedSimpArgs false
set_option linter.unusedVariables false

set_option maxHeartbeats 8000000 in
set_option maxRecDepth 100000 in
theorem walk_FnSendRecord (a0 : Option Addr) (len0 cap0 : Nat) (z0 : List Int) (w : World) (w0 : IsRow .u8 w a0 len0 cap0 z0) :
    Calls Tryz.prog 3 #[.slice a0 len0 cap0] w (BoolPost w true) := by
  have hb0 := w0.leT
  by_cases h1 : (1048576 : Int) < (len0 : Int)
  · go_enter Tryz.func3, Tryz.ntmps3
    go_wp2_with fail
    go_ret
    exact ⟨rfl, Below.refl _ _⟩
  have DR := hid (drawSendRecord_c a0 len0 cap0 z0 w w0)
  clear w0
  go_enter Tryz.func3, Tryz.ntmps3
  go_wp2_with fail
  refine DR.out.mono ?_
  rintro e w1 ⟨v, rs, L, H, q, nm, tx, lv, sq, rfl, hs, hsm, ⟨hnm, htx⟩, hlv, hsq, hr, hb⟩
  obtain ⟨A1, n1, k1, A2, n2, k2, rfl, hn1, hn2⟩ := hs.form_ hr
  have hd := sm_fit hsm (by omega)
  have TI0 := hs.at_ hr hd
  have hbx : Below w1.heap.size w1 (((w1.alloc (.cells #[.slice A1 n1 k1, .slice A2 n2 k2, .int .i64 q] 26)).alloc (.cells #[.string nm, .int .i64 lv, .string tx, .int .i64 sq] 28))) := ((Below.refl _ _).alloc (Nat.le_refl _) _).alloc (by simp) _
  have TI := hid (TI0.below hbx (Nat.le_refl _))
  have KB := hid ((Blk.new w1 #[.slice A1 n1 k1, .slice A2 n2 k2, .int .i64 q] 26).alloc (.cells #[.string nm, .int .i64 lv, .string tx, .int .i64 sq] 28))
  have KR := hid (Blk.new (w1.alloc (.cells #[.slice A1 n1 k1, .slice A2 n2 k2, .int .i64 q] 26)) #[.string nm, .int .i64 lv, .string tx, .int .i64 sq] 28)
  simp only [World.size_alloc] at KR
  have HB := hid (hb.trans (hbx.mono hb.size))
  have hl1 : w1.heap.size < (((w1.alloc (.cells #[.slice A1 n1 k1, .slice A2 n2 k2, .int .i64 q] 26)).alloc (.cells #[.string nm, .int .i64 lv, .string tx, .int .i64 sq] 28))).heap.size := by simp; omega
  have HL := hid (And.intro hn1 (And.intro hn2 (And.intro hsm.2.2.1 (And.intro hsm.1 hsm.2.1.1))))
  replace hd := hid hd
  clear hs hr hb hn1 hn2 hsm TI0 hbx DR hlv hsq
  go_wp2_with fail
  generalize hbb : w1.heap.size = bb at *
  generalize ((w1.alloc (.cells #[.slice A1 n1 k1, .slice A2 n2 k2, .int .i64 q] 26)).alloc (.cells #[.string nm, .int .i64 lv, .string tx, .int .i64 sq] 28)) = w2 at *
  clear hbb
  have HW := hid (Below.refl w2.heap.size w2)
  have TT := hid (fun (W : World) (hW : Below w2.heap.size w2 W) => (And.intro (TI.out.below hW (Nat.le_of_lt hl1)) (Nat.le_trans (Nat.le_of_lt hl1) hW.size)))
  obtain ⟨⟨d0, _⟩, ⟨d1, _⟩, ⟨d2, _⟩⟩ := (And.intro ((KB.out.to HW.out).2 0 _ rfl) (And.intro ((KB.out.to HW.out).2 1 _ rfl) ((KB.out.to HW.out).2 2 _ rfl)))
  obtain ⟨⟨r0, _⟩, ⟨r1, _⟩, ⟨r2, _⟩, ⟨r3, _⟩⟩ := (And.intro ((KR.out.to HW.out).2 0 _ rfl) (And.intro ((KR.out.to HW.out).2 1 _ rfl) (And.intro ((KR.out.to HW.out).2 2 _ rfl) ((KR.out.to HW.out).2 3 _ rfl))))
  have hz1 : nm.size ≤ 1048576 := by omega
  have hz2 : tx.size ≤ 1048576 := by omega
  have CI := hid (fun (W : World) (hW : Below w2.heap.size w2 W) => implSendRecord_c nm tx lv sq (TT.out W hW).1 (TT.out W hW).2 hz1 hz2)
  have CS := hid (fun (W : World) (hW : Below w2.heap.size w2 W) => specSendRecord_c nm tx lv sq (TT.out W hW).1 (TT.out W hW).2 hz1 hz2)
  have CT := hid (fun (W : World) (hW : Below w2.heap.size w2 W) => implValidTreeX_c (TT.out W hW).1 (TT.out W hW).2)
  have CE := hid (fun (W : World) (hW : Below w2.heap.size w2 W) => implIsEnabled_c nm lv (TT.out W hW).1 (TT.out W hW).2 (by unfold maxLen; omega))
  have CP := hid (fun (W : World) (hW : Below w2.heap.size w2 W) => implSpotsOf_c nm (TT.out W hW).1 (TT.out W hW).2 (by unfold maxLen; omega))
  have FE := hid (fun (h : treeOk L H q = true) (hr : recOk ⟨nm.data.toList, lv, tx.data.toList, sq⟩ = true) => send_dis h hr)
  have FN := hid (fun (h : treeOk L H q = true) (hr : recOk ⟨nm.data.toList, lv, tx.data.toList, sq⟩ = true) => send_none h hr)
  have FS := hid (fun (h : treeOk L H q = true) (hr : recOk ⟨nm.data.toList, lv, tx.data.toList, sq⟩ = true) => send_sub h hr)
  obtain ⟨X, hX⟩ : ∃ X, sendX L H q ⟨nm.data.toList, lv, tx.data.toList, sq⟩ = X := ⟨_, rfl⟩
  rw [hX] at CI CS
  generalize hok : treeOk L H q = ok at *
  generalize hrok : recOk ⟨nm.data.toList, lv, tx.data.toList, sq⟩ = rok at *
  replace hok := hid hok
  replace hrok := hid hrok
  replace hX := hid hX
  rw [hX.out] at FE FN FS
  have hP30 := spotsT_len L H q nm.data.toList
  have hX30 : X.length ≤ 30 := by rw [← hX.out]; exact sendX_len L H q _
  replace FN := hid (show ok = true → rok = true → spotsT L H q nm.data.toList = [] → X = [] ∨ ∃ g : Int, 30 ≤ g ∧ X = [⟨[], lastL, ⟨nm.data.toList, g, tx.data.toList, sq⟩⟩] from FN.out)
  replace FS := hid (show ok = true → rok = true → spotsT L H q nm.data.toList ≠ [] → (X.map prS).Sublist (spotsT L H q nm.data.toList) from FS.out)
  replace FE := hid (show ok = true → rok = true → isEnabledT L H q nm.data.toList lv = false → X = [] from FE.out)
  generalize spotsT L H q nm.data.toList = P at *
  generalize isEnabledT L H q nm.data.toList lv = en at *
  go_wp2_with fail
  refine (CI.out _ HW.out).mono ?_
  rintro e w3 ⟨v3, rfl, ho3, hb⟩
  obtain ⟨A3, c3, rfl, hc3, hm3⟩ := (Sl.of_own ho3).form
  unfold maxLen at hm3
  replace HW := hid (HW.out.trans (hb.mono HW.out.size))
  clear hb
  clear d0 d1 d2 r0 r1 r2 r3
  obtain ⟨⟨d0, _⟩, ⟨d1, _⟩, ⟨d2, _⟩⟩ := (And.intro ((KB.out.to HW.out).2 0 _ rfl) (And.intro ((KB.out.to HW.out).2 1 _ rfl) ((KB.out.to HW.out).2 2 _ rfl)))
  obtain ⟨⟨r0, _⟩, ⟨r1, _⟩, ⟨r2, _⟩, ⟨r3, _⟩⟩ := (And.intro ((KR.out.to HW.out).2 0 _ rfl) (And.intro ((KR.out.to HW.out).2 1 _ rfl) (And.intro ((KR.out.to HW.out).2 2 _ rfl) ((KR.out.to HW.out).2 3 _ rfl))))
  have O3 := hid ho3
  have HV := hid (Below.refl w3.heap.size w3)
  clear ho3
  go_wp2_with fail
  refine (CS.out _ HW.out).mono ?_
  rintro e w4 ⟨v4, rfl, ho4, hb⟩
  obtain ⟨A4, c4, rfl, _, _⟩ := (Sl.of_own ho4).form
  have CQ := hid (equalSent_c _ _ X.length w4.heap.size X w4 (((((Sl.of_own O3.out).below HV.out (Nat.le_refl _)).more HV.out.size).below hb (Nat.le_refl _)).more hb.size) (Sl.of_own ho4) (Nat.le_refl _))
  replace HW := hid (HW.out.trans (hb.mono HW.out.size))
  replace HV := hid (HV.out.trans (hb.mono HV.out.size))
  clear hb ho4
  clear d0 d1 d2 r0 r1 r2 r3
  obtain ⟨⟨d0, _⟩, ⟨d1, _⟩, ⟨d2, _⟩⟩ := (And.intro ((KB.out.to HW.out).2 0 _ rfl) (And.intro ((KB.out.to HW.out).2 1 _ rfl) ((KB.out.to HW.out).2 2 _ rfl)))
  obtain ⟨⟨r0, _⟩, ⟨r1, _⟩, ⟨r2, _⟩, ⟨r3, _⟩⟩ := (And.intro ((KR.out.to HW.out).2 0 _ rfl) (And.intro ((KR.out.to HW.out).2 1 _ rfl) (And.intro ((KR.out.to HW.out).2 2 _ rfl) ((KR.out.to HW.out).2 3 _ rfl))))
  go_wp2_with fail
  refine (CQ.out).mono ?_
  rintro e w5 ⟨rfl, hb⟩
  replace HW := hid (HW.out.trans (hb.mono HW.out.size))
  replace HV := hid (HV.out.trans (hb.mono HV.out.size))
  clear hb
  clear d0 d1 d2 r0 r1 r2 r3
  obtain ⟨⟨d0, _⟩, ⟨d1, _⟩, ⟨d2, _⟩⟩ := (And.intro ((KB.out.to HW.out).2 0 _ rfl) (And.intro ((KB.out.to HW.out).2 1 _ rfl) ((KB.out.to HW.out).2 2 _ rfl)))
  obtain ⟨⟨r0, _⟩, ⟨r1, _⟩, ⟨r2, _⟩, ⟨r3, _⟩⟩ := (And.intro ((KR.out.to HW.out).2 0 _ rfl) (And.intro ((KR.out.to HW.out).2 1 _ rfl) (And.intro ((KR.out.to HW.out).2 2 _ rfl) ((KR.out.to HW.out).2 3 _ rfl))))
  clear CQ
  go_wp2_with fail
  refine (CT.out _ HW.out).mono ?_
  rintro e w6 ⟨rfl, hb⟩
  replace HW := hid (HW.out.trans (hb.mono HW.out.size))
  replace HV := hid (HV.out.trans (hb.mono HV.out.size))
  clear hb
  clear d0 d1 d2 r0 r1 r2 r3
  obtain ⟨⟨d0, _⟩, ⟨d1, _⟩, ⟨d2, _⟩⟩ := (And.intro ((KB.out.to HW.out).2 0 _ rfl) (And.intro ((KB.out.to HW.out).2 1 _ rfl) ((KB.out.to HW.out).2 2 _ rfl)))
  obtain ⟨⟨r0, _⟩, ⟨r1, _⟩, ⟨r2, _⟩, ⟨r3, _⟩⟩ := (And.intro ((KR.out.to HW.out).2 0 _ rfl) (And.intro ((KR.out.to HW.out).2 1 _ rfl) (And.intro ((KR.out.to HW.out).2 2 _ rfl) ((KR.out.to HW.out).2 3 _ rfl))))
  cases ok with
  | false =>
    go_wp2_with fail
    refine (CS.out _ HW.out).mono ?_
    rintro e w7 ⟨v7, rfl, ho7, hb⟩
    obtain ⟨A7, c7, rfl, _, _⟩ := (Sl.of_own ho7).form
    have CQ := hid (equalSent_c _ _ X.length w7.heap.size X w7 (((((Sl.of_own O3.out).below HV.out (Nat.le_refl _)).more HV.out.size).below hb (Nat.le_refl _)).more hb.size) (Sl.of_own ho7) (Nat.le_refl _))
    replace HW := hid (HW.out.trans (hb.mono HW.out.size))
    replace HV := hid (HV.out.trans (hb.mono HV.out.size))
    clear hb ho7
    clear d0 d1 d2 r0 r1 r2 r3
    obtain ⟨⟨d0, _⟩, ⟨d1, _⟩, ⟨d2, _⟩⟩ := (And.intro ((KB.out.to HW.out).2 0 _ rfl) (And.intro ((KB.out.to HW.out).2 1 _ rfl) ((KB.out.to HW.out).2 2 _ rfl)))
    obtain ⟨⟨r0, _⟩, ⟨r1, _⟩, ⟨r2, _⟩, ⟨r3, _⟩⟩ := (And.intro ((KR.out.to HW.out).2 0 _ rfl) (And.intro ((KR.out.to HW.out).2 1 _ rfl) (And.intro ((KR.out.to HW.out).2 2 _ rfl) ((KR.out.to HW.out).2 3 _ rfl))))
    go_wp2_with fail
    refine (CQ.out).mono ?_
    rintro e w8 ⟨rfl, hb⟩
    replace HW := hid (HW.out.trans (hb.mono HW.out.size))
    replace HV := hid (HV.out.trans (hb.mono HV.out.size))
    clear hb
    clear d0 d1 d2 r0 r1 r2 r3
    obtain ⟨⟨d0, _⟩, ⟨d1, _⟩, ⟨d2, _⟩⟩ := (And.intro ((KB.out.to HW.out).2 0 _ rfl) (And.intro ((KB.out.to HW.out).2 1 _ rfl) ((KB.out.to HW.out).2 2 _ rfl)))
    obtain ⟨⟨r0, _⟩, ⟨r1, _⟩, ⟨r2, _⟩, ⟨r3, _⟩⟩ := (And.intro ((KR.out.to HW.out).2 0 _ rfl) (And.intro ((KR.out.to HW.out).2 1 _ rfl) (And.intro ((KR.out.to HW.out).2 2 _ rfl) ((KR.out.to HW.out).2 3 _ rfl))))
    clear CQ
    go_wp2_with fail
    go_ret
    exact ⟨rfl, HB.out.trans (HW.out.mono HB.out.size)⟩
  | true =>
    have CV := hid (fun (W : World) => (show Calls Tryz.prog 16 #[.slice (some ⟨W.heap.size, 0, none⟩) 1 1] (W.alloc (.cells #[.string nm, .int .i64 lv, .string tx, .int .i64 sq] 28)) (BoolPost (W.alloc (.cells #[.string nm, .int .i64 lv, .string tx, .int .i64 sq] 28)) rok) from by have h9 := recLit_c W nm tx lv sq hz1 hz2; rw [hrok.out] at h9; exact h9))
    go_wp2_with fail
    refine (CV.out _).mono ?_
    rintro e w7 ⟨rfl, hb9⟩
    have hb := (show Below w6.heap.size w6 w7 from ((Below.refl _ _).alloc (Nat.le_refl _) _).trans (hb9.mono (by simp)))
    clear hb9
    replace HW := hid (HW.out.trans (hb.mono HW.out.size))
    replace HV := hid (HV.out.trans (hb.mono HV.out.size))
    clear hb
    clear d0 d1 d2 r0 r1 r2 r3
    obtain ⟨⟨d0, _⟩, ⟨d1, _⟩, ⟨d2, _⟩⟩ := (And.intro ((KB.out.to HW.out).2 0 _ rfl) (And.intro ((KB.out.to HW.out).2 1 _ rfl) ((KB.out.to HW.out).2 2 _ rfl)))
    obtain ⟨⟨r0, _⟩, ⟨r1, _⟩, ⟨r2, _⟩, ⟨r3, _⟩⟩ := (And.intro ((KR.out.to HW.out).2 0 _ rfl) (And.intro ((KR.out.to HW.out).2 1 _ rfl) (And.intro ((KR.out.to HW.out).2 2 _ rfl) ((KR.out.to HW.out).2 3 _ rfl))))
    cases rok with
    | false =>
      go_wp2_with fail
      refine (CS.out _ HW.out).mono ?_
      rintro e w8 ⟨v8, rfl, ho8, hb⟩
      obtain ⟨A8, c8, rfl, _, _⟩ := (Sl.of_own ho8).form
      have CQ := hid (equalSent_c _ _ X.length w8.heap.size X w8 (((((Sl.of_own O3.out).below HV.out (Nat.le_refl _)).more HV.out.size).below hb (Nat.le_refl _)).more hb.size) (Sl.of_own ho8) (Nat.le_refl _))
      replace HW := hid (HW.out.trans (hb.mono HW.out.size))
      replace HV := hid (HV.out.trans (hb.mono HV.out.size))
      clear hb ho8
      clear d0 d1 d2 r0 r1 r2 r3
      obtain ⟨⟨d0, _⟩, ⟨d1, _⟩, ⟨d2, _⟩⟩ := (And.intro ((KB.out.to HW.out).2 0 _ rfl) (And.intro ((KB.out.to HW.out).2 1 _ rfl) ((KB.out.to HW.out).2 2 _ rfl)))
      obtain ⟨⟨r0, _⟩, ⟨r1, _⟩, ⟨r2, _⟩, ⟨r3, _⟩⟩ := (And.intro ((KR.out.to HW.out).2 0 _ rfl) (And.intro ((KR.out.to HW.out).2 1 _ rfl) (And.intro ((KR.out.to HW.out).2 2 _ rfl) ((KR.out.to HW.out).2 3 _ rfl))))
      go_wp2_with fail
      refine (CQ.out).mono ?_
      rintro e w9 ⟨rfl, hb⟩
      replace HW := hid (HW.out.trans (hb.mono HW.out.size))
      replace HV := hid (HV.out.trans (hb.mono HV.out.size))
      clear hb
      clear d0 d1 d2 r0 r1 r2 r3
      obtain ⟨⟨d0, _⟩, ⟨d1, _⟩, ⟨d2, _⟩⟩ := (And.intro ((KB.out.to HW.out).2 0 _ rfl) (And.intro ((KB.out.to HW.out).2 1 _ rfl) ((KB.out.to HW.out).2 2 _ rfl)))
      obtain ⟨⟨r0, _⟩, ⟨r1, _⟩, ⟨r2, _⟩, ⟨r3, _⟩⟩ := (And.intro ((KR.out.to HW.out).2 0 _ rfl) (And.intro ((KR.out.to HW.out).2 1 _ rfl) (And.intro ((KR.out.to HW.out).2 2 _ rfl) ((KR.out.to HW.out).2 3 _ rfl))))
      clear CQ
      go_wp2_with fail
      go_ret
      exact ⟨rfl, HB.out.trans (HW.out.mono HB.out.size)⟩
    | true =>
      replace FE := hid (FE.out (by trivial) (by trivial))
      replace FN := hid (FN.out (by trivial) (by trivial))
      replace FS := hid (FS.out (by trivial) (by trivial))
      go_wp2_with fail
      refine (CE.out _ HW.out).mono ?_
      rintro e w8 ⟨rfl, hb⟩
      replace HW := hid (HW.out.trans (hb.mono HW.out.size))
      replace HV := hid (HV.out.trans (hb.mono HV.out.size))
      clear hb
      clear d0 d1 d2 r0 r1 r2 r3
      obtain ⟨⟨d0, _⟩, ⟨d1, _⟩, ⟨d2, _⟩⟩ := (And.intro ((KB.out.to HW.out).2 0 _ rfl) (And.intro ((KB.out.to HW.out).2 1 _ rfl) ((KB.out.to HW.out).2 2 _ rfl)))
      obtain ⟨⟨r0, _⟩, ⟨r1, _⟩, ⟨r2, _⟩, ⟨r3, _⟩⟩ := (And.intro ((KR.out.to HW.out).2 0 _ rfl) (And.intro ((KR.out.to HW.out).2 1 _ rfl) (And.intro ((KR.out.to HW.out).2 2 _ rfl) ((KR.out.to HW.out).2 3 _ rfl))))
      cases en with
      | false =>
        have h0 : X = [] := FE.out (by trivial)
        clear FE FN FS
        subst h0
        go_wp2_with fail
        go_ret
        exact ⟨ret_bool (by simp), HB.out.trans (HW.out.mono HB.out.size)⟩
      | true =>
        clear FE
        go_wp2_with fail
        refine (CP.out _ HW.out).mono ?_
        rintro e w9 ⟨vP, rfl, hoP, hb⟩
        obtain ⟨AP, cP, rfl, hcP, hmP⟩ := (Sl.of_own hoP).form
        unfold maxLen at hmP
        replace HW := hid (HW.out.trans (hb.mono HW.out.size))
        replace HV := hid (HV.out.trans (hb.mono HV.out.size))
        clear hb
        clear d0 d1 d2 r0 r1 r2 r3
        obtain ⟨⟨d0, _⟩, ⟨d1, _⟩, ⟨d2, _⟩⟩ := (And.intro ((KB.out.to HW.out).2 0 _ rfl) (And.intro ((KB.out.to HW.out).2 1 _ rfl) ((KB.out.to HW.out).2 2 _ rfl)))
        obtain ⟨⟨r0, _⟩, ⟨r1, _⟩, ⟨r2, _⟩, ⟨r3, _⟩⟩ := (And.intro ((KR.out.to HW.out).2 0 _ rfl) (And.intro ((KR.out.to HW.out).2 1 _ rfl) (And.intro ((KR.out.to HW.out).2 2 _ rfl) ((KR.out.to HW.out).2 3 _ rfl))))
        have OP := hid hoP
        have HP := hid (Below.refl w9.heap.size w9)
        clear hoP
        by_cases hP0 : P = []
        · rcases FN.out hP0 with h0 | ⟨g, hg, h0⟩
          · clear FN FS
            subst h0 hP0
            go_wp2_with fail
            go_ret
            exact ⟨ret_bool (by simp), HB.out.trans (HW.out.mono HB.out.size)⟩
          · clear FN FS
            obtain ⟨b, o, lg, hd3, nm3, lv3, tx3, sq3, rfl, hbB, hx, g0, g1, g2, g3, g4, g5⟩ := sncells_at (k := 0) ((Sl.of_own O3.out).below HV.out (Nat.le_refl _)) (by rw [h0]; simp)
            rw [h0] at hx
            simp only [List.getElem?_cons_zero, Option.some.injEq, Snt.mk.injEq, Rec.mk.injEq] at hx
            obtain ⟨e1, e2, _, e4, _⟩ := hx
            have hl4 : 30 ≤ lv3 := by omega
            have e5 := empty_true e1.symm
            have e6 : (hd3.toList == [108, 97, 115, 116]) = true := by rw [last_eq]; exact decide_eq_true e2.symm
            simp only [Nat.zero_mul, Nat.add_zero] at g0 g1 g3
            subst h0 hP0
            clear e1 e2 e4 g2 g4 g5
            have s1 : (0 : Int) < ((1 : Nat) : Int) := by omega
            go_wp2_with fail
            go_ret
            exact ⟨ret_bool (by simp), HB.out.trans (HW.out.mono HB.out.size)⟩
        · replace FS := hid (FS.out hP0)
          generalize hmP2 : P.length = m at *
          have hm0 : 0 < m := by rw [← hmP2]; exact List.length_pos_iff.2 hP0
          have hb0' : ((m : Int) == 0) = false := by simp; omega
          generalize hn3 : X.length = n3 at *
          replace hn3 := hid hn3
          replace hmP2 := hid hmP2
          clear FN hP0
          go_wp2_with fail
          go_loopw [7, 8] (fun av kv wr => ∃ a k : Nat, av = .int .i64 a ∧ kv = .int .i64 k ∧ a ≤ m ∧ k ≤ n3 ∧ Hid (((X.map prS).drop k).Sublist (P.drop a)) ∧ Hid (Below w2.heap.size w2 wr) ∧ Hid (Below w3.heap.size w3 wr) ∧ Hid (Below w9.heap.size w9 wr)) (fun _ kv _ => n3 - (intOf kv).toNat)
          case atStart => exact ⟨0, 0, rfl, rfl, Nat.zero_le _, Nat.zero_le _, FS.out, HW.out, HV.out, HP.out⟩
          case round =>
            obtain ⟨a, k, rfl, rfl, ha, hk, HS, HWr, HVr, HPr⟩ := hrel
            clear d0 d1 d2 r0 r1 r2 r3
            by_cases hkn : k < n3
            · obtain ⟨wo, hwo⟩ : ∃ wo, wo = wr := ⟨_, rfl⟩
              subst hwo
              go_wp2_with fail
              go_loopw [7] (fun av wq => ∃ a : Nat, av = .int .i64 a ∧ a ≤ m ∧ Hid (((X.map prS).drop k).Sublist (P.drop a)) ∧ Hid (Below w2.heap.size w2 wq) ∧ Hid (Below w3.heap.size w3 wq) ∧ Hid (Below w9.heap.size w9 wq)) (fun av _ => m - (intOf av).toNat)
              case atStart => exact ⟨a, rfl, ha, HS.out, HWr.out, HVr.out, HPr.out⟩
              case round =>
                clear HS HWr HVr HPr ha
                obtain ⟨a, rfl, ha, HS, HWq, HVq, HPq⟩ := hrel
                obtain ⟨b, o, lg, hd3, nm3, lv3, tx3, sq3, rfl, hbB, hx, g0, g1, g2, g3, g4, g5⟩ := sncells_at ((Sl.of_own O3.out).below HVq.out (Nat.le_refl _)) hkn
                have hx2 := pr_at hx
                by_cases ham : a < m
                · obtain ⟨b2, o2, lg2, hd2, rfl, hbB2, hy, y0, y1⟩ := spcells_at ((Sl.of_own OP.out).below HPq.out (Nat.le_refl _)) ham
                  have s0 : (0 : Int) ≤ (k : Int) := by omega
                  have s1 : (k : Int) < (n3 : Int) := by omega
                  have s2 : ((k : Int)).toNat = k := by simp
                  have t0 : (0 : Int) ≤ (a : Int) := by omega
                  have t1 : (a : Int) < (m : Int) := by omega
                  have t2 : ((a : Int)).toNat = a := by simp
                  have t3 : ((a : Int) == (m : Int)) = false := by simp; omega
                  have HX2 := hid (And.intro hx2 hy)
                  clear hx hx2 hy g2 g3 g4 g5
                  by_cases hl : lg2.data.toList = lg.data.toList
                  · have e1 := eq_true_of hl
                    by_cases hh : hd2.data.toList = hd3.data.toList
                    · have e2 := eq_true_of hh
                      have HN := hid (sub_hit HS.out HX2.out.1 (by rw [HX2.out.2, hl, hh]))
                      clear hl hh
                      go_wp2_with fail
                      go_quiet (fail)
                      go_wp2_with fail
                      go_roundw
                      case rel => exact ⟨a + 1, k + 1, by go_num, by go_num, by omega, by omega, HN.out, below_dr HWq.out _, below_dr HVq.out _, below_dr HPq.out _⟩
                      case measure => simp [intOf]; omega
                    · have e2 := eq_false_of hh
                      have HN := hid (sub_skip HS.out HX2.out.1 HX2.out.2 (fun e => hh (by injection e)))
                      clear hl hh
                      go_wp2_with fail
                      go_quiet (fail)
                      go_wp2_with fail
                      go_roundw
                      case rel => exact ⟨a + 1, by go_num, by omega, HN.out, below_dr HWq.out _, below_dr HVq.out _, below_dr HPq.out _⟩
                      case measure => simp [intOf]; omega
                  · have e1 := eq_false_of hl
                    have HN := hid (sub_skip HS.out HX2.out.1 HX2.out.2 (fun e => hl (by injection e)))
                    clear hl
                    go_wp2_with fail
                    go_quiet (fail)
                    go_wp2_with fail
                    go_roundw
                    case rel => exact ⟨a + 1, by go_num, by omega, HN.out, below_dr HWq.out _, below_dr HVq.out _, below_dr HPq.out _⟩
                    case measure => simp [intOf]; omega
                · exact (sub_end HS.out hx2 (by rw [hmP2.out]; omega)).elim
            · go_wp2_with fail
              go_ret
              exact ⟨rfl, HB.out.trans (HWr.out.mono HB.out.size)⟩
end Go.Proofs.YtioegkcekbkblaaGreat
