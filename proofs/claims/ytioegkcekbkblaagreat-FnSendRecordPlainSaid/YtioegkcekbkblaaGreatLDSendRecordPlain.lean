/-
  WALK: the law FnSendRecordPlain. By gen_sr.py.
-/
import Derived.Test.YtioegkcekbkblaaGreatSR2
import Derived.Test.YtioegkcekbkblaaGreatE25
import Derived.Test.YtioegkcekbkblaaGreatSN9
import Derived.Test.YtioegkcekbkblaaGreatEqSent
import Derived.Test.YtioegkcekbkblaaGreatLookI
namespace Go.Proofs.YtioegkcekbkblaaGreat
open Go.RowKit Go.Proofs.YtioegkcekbkblaaGreat.Nm
set_option linter.unusedSimpArgs false
set_option linter.unusedVariables false

theorem fit_noneS : dataFit [] [] := ⟨⟨by simp, by simp⟩, ⟨by simp, by simp⟩⟩

set_option maxHeartbeats 8000000 in
set_option maxRecDepth 100000 in
theorem walk_FnSendRecordPlain (a0 : Option Addr) (len0 cap0 : Nat) (z0 : List Int) (w : World) (w0 : IsRow .u8 w a0 len0 cap0 z0) :
    Calls Tryz.prog 5 #[.slice a0 len0 cap0] w (BoolPost w true) := by
  have hb0 := w0.leT
  by_cases h1 : (1048576 : Int) < (len0 : Int)
  · go_enter Tryz.func5, Tryz.ntmps5
    go_wp2_with fail
    go_ret
    exact ⟨rfl, Below.refl _ _⟩
  have DR := hid (drawSendRecord_c a0 len0 cap0 z0 w w0)
  clear w0
  go_enter Tryz.func5, Tryz.ntmps5
  go_wp2_with fail
  refine DR.out.mono ?_
  rintro e w1 ⟨v, rs, L, H, q, nm, tx, lv, sq, rfl, hs, hsm, ⟨hnm, htx⟩, hlv, hsq, hr, hb⟩
  obtain ⟨A1, n1, k1, A2, n2, k2, rfl, hn1, hn2⟩ := hs.form_ hr
  have hd := sm_fit hsm (by omega)
  have TI0 := hs.at_ hr hd
  have hbx : Below w1.heap.size w1 (((w1.alloc (.cells #[.slice A1 n1 k1, .slice A2 n2 k2, .int .i64 q] 26)).alloc (.cells #[.string nm, .int .i64 lv, .string tx, .int .i64 sq] 28))) := ((Below.refl _ _).alloc (Nat.le_refl _) _).alloc (by simp) _
  have TI := hid (TI0.below hbx (Nat.le_refl _))
  have KB := hid ((Blk.new w1 #[.slice A1 n1 k1, .slice A2 n2 k2, .int .i64 q] 26).alloc (.cells #[.string nm, .int .i64 lv, .string tx, .int .i64 sq] 28))
  have KR := hid (Blk.new (w1.alloc (.cells #[.slice A1 n1 k1, .slice A2 n2 k2, .int .i64 q] 26)) #[.string nm, .int .i64 lv, .string tx, .int .i64 sq] 28)
  simp only [World.size_alloc] at KR
  have HB := hid (hb.trans (hbx.mono hb.size))
  have hl1 : w1.heap.size < (((w1.alloc (.cells #[.slice A1 n1 k1, .slice A2 n2 k2, .int .i64 q] 26)).alloc (.cells #[.string nm, .int .i64 lv, .string tx, .int .i64 sq] 28))).heap.size := by simp; omega
  have HL := hid (And.intro hn1 (And.intro hn2 (And.intro hsm.2.2.1 (And.intro hsm.1 hsm.2.1.1))))
  replace hd := hid hd
  clear hs hr hb hn1 hn2 hsm TI0 hbx DR hlv hsq
  go_wp2_with fail
  generalize hbb : w1.heap.size = bb at *
  generalize ((w1.alloc (.cells #[.slice A1 n1 k1, .slice A2 n2 k2, .int .i64 q] 26)).alloc (.cells #[.string nm, .int .i64 lv, .string tx, .int .i64 sq] 28)) = w2 at *
  clear hbb
  have HW := hid (Below.refl w2.heap.size w2)
  have TT := hid (fun (W : World) (hW : Below w2.heap.size w2 W) => (And.intro (TI.out.below hW (Nat.le_of_lt hl1)) (Nat.le_trans (Nat.le_of_lt hl1) hW.size)))
  obtain ⟨⟨d0, _⟩, ⟨d1, _⟩, ⟨d2, _⟩⟩ := (And.intro ((KB.out.to HW.out).2 0 _ rfl) (And.intro ((KB.out.to HW.out).2 1 _ rfl) ((KB.out.to HW.out).2 2 _ rfl)))
  obtain ⟨⟨r0, _⟩, ⟨r1, _⟩, ⟨r2, _⟩, ⟨r3, _⟩⟩ := (And.intro ((KR.out.to HW.out).2 0 _ rfl) (And.intro ((KR.out.to HW.out).2 1 _ rfl) (And.intro ((KR.out.to HW.out).2 2 _ rfl) ((KR.out.to HW.out).2 3 _ rfl))))
  have hz1 : nm.size ≤ 1048576 := by omega
  have hz2 : tx.size ≤ 1048576 := by omega
  have CI := hid (fun (W : World) (hW : Below w2.heap.size w2 W) => implSendRecord_c nm tx lv sq (TT.out W hW).1 (TT.out W hW).2 hz1 hz2)
  have CS := hid (fun (W : World) (hW : Below w2.heap.size w2 W) => specSendRecord_c nm tx lv sq (TT.out W hW).1 (TT.out W hW).2 hz1 hz2)
  have CT := hid (fun (W : World) (hW : Below w2.heap.size w2 W) => implValidTreeX_c (TT.out W hW).1 (TT.out W hW).2)
  obtain ⟨X, hX⟩ : ∃ X, sendX L H q ⟨nm.data.toList, lv, tx.data.toList, sq⟩ = X := ⟨_, rfl⟩
  rw [hX] at CI CS
  generalize hok : treeOk L H q = ok at *
  generalize hrok : recOk ⟨nm.data.toList, lv, tx.data.toList, sq⟩ = rok at *
  replace hok := hid hok
  replace hrok := hid hrok
  replace hX := hid hX
  have FA := add_cases L H q nm.data.toList
  have CA0 := hid (fun (hn : addX L H q nm.data.toList = none) (W : World) (hW : Below w2.heap.size w2 W) => (show Calls Tryz.prog 19 #[.agg #[.slice A1 n1 k1, .slice A2 n2 k2, .int .i64 q], .string nm] W (fun e w' => ∃ v2 rs, e = .returned (.tuple #[v2, .bool false]) ∧ TreeS rs v2 ([]) [] 0 ∧ Rows w' W.heap.size rs ∧ Below W.heap.size W w') from by have h9 := implAddLogger_c nm (TT.out W hW).1 (TT.out W hW).2 (by unfold maxTxt; omega); rw [hn] at h9; exact h9))
  have CA1 := hid (fun (hn : addX L H q nm.data.toList = some (addT L nm.data.toList, H, q)) (W : World) (hW : Below w2.heap.size w2 W) => (show Calls Tryz.prog 19 #[.agg #[.slice A1 n1 k1, .slice A2 n2 k2, .int .i64 q], .string nm] W (fun e w' => ∃ v2 rs, e = .returned (.tuple #[v2, .bool true]) ∧ TreeS rs v2 (addT L nm.data.toList) H q ∧ Rows w' W.heap.size rs ∧ Below W.heap.size W w') from by have h9 := implAddLogger_c nm (TT.out W hW).1 (TT.out W hW).2 (by unfold maxTxt; omega); rw [hn] at h9; exact h9))
  replace FA := hid FA
  go_wp2_with fail
  refine (CI.out _ HW.out).mono ?_
  rintro e w3 ⟨v3, rfl, ho3, hb⟩
  obtain ⟨A3, c3, rfl, hc3, hm3⟩ := (Sl.of_own ho3).form
  unfold maxLen at hm3
  replace HW := hid (HW.out.trans (hb.mono HW.out.size))
  clear hb
  clear d0 d1 d2 r0 r1 r2 r3
  obtain ⟨⟨d0, _⟩, ⟨d1, _⟩, ⟨d2, _⟩⟩ := (And.intro ((KB.out.to HW.out).2 0 _ rfl) (And.intro ((KB.out.to HW.out).2 1 _ rfl) ((KB.out.to HW.out).2 2 _ rfl)))
  obtain ⟨⟨r0, _⟩, ⟨r1, _⟩, ⟨r2, _⟩, ⟨r3, _⟩⟩ := (And.intro ((KR.out.to HW.out).2 0 _ rfl) (And.intro ((KR.out.to HW.out).2 1 _ rfl) (And.intro ((KR.out.to HW.out).2 2 _ rfl) ((KR.out.to HW.out).2 3 _ rfl))))
  have O3 := hid ho3
  have HV := hid (Below.refl w3.heap.size w3)
  clear ho3
  go_wp2_with fail
  refine (CS.out _ HW.out).mono ?_
  rintro e w4 ⟨v4, rfl, ho4, hb⟩
  obtain ⟨A4, c4, rfl, _, _⟩ := (Sl.of_own ho4).form
  have CQ := hid (equalSent_c _ _ X.length w4.heap.size X w4 (((((Sl.of_own O3.out).below HV.out (Nat.le_refl _)).more HV.out.size).below hb (Nat.le_refl _)).more hb.size) (Sl.of_own ho4) (Nat.le_refl _))
  replace HW := hid (HW.out.trans (hb.mono HW.out.size))
  replace HV := hid (HV.out.trans (hb.mono HV.out.size))
  clear hb ho4
  clear d0 d1 d2 r0 r1 r2 r3
  obtain ⟨⟨d0, _⟩, ⟨d1, _⟩, ⟨d2, _⟩⟩ := (And.intro ((KB.out.to HW.out).2 0 _ rfl) (And.intro ((KB.out.to HW.out).2 1 _ rfl) ((KB.out.to HW.out).2 2 _ rfl)))
  obtain ⟨⟨r0, _⟩, ⟨r1, _⟩, ⟨r2, _⟩, ⟨r3, _⟩⟩ := (And.intro ((KR.out.to HW.out).2 0 _ rfl) (And.intro ((KR.out.to HW.out).2 1 _ rfl) (And.intro ((KR.out.to HW.out).2 2 _ rfl) ((KR.out.to HW.out).2 3 _ rfl))))
  go_wp2_with fail
  refine (CQ.out).mono ?_
  rintro e w5 ⟨rfl, hb⟩
  replace HW := hid (HW.out.trans (hb.mono HW.out.size))
  replace HV := hid (HV.out.trans (hb.mono HV.out.size))
  clear hb
  clear d0 d1 d2 r0 r1 r2 r3
  obtain ⟨⟨d0, _⟩, ⟨d1, _⟩, ⟨d2, _⟩⟩ := (And.intro ((KB.out.to HW.out).2 0 _ rfl) (And.intro ((KB.out.to HW.out).2 1 _ rfl) ((KB.out.to HW.out).2 2 _ rfl)))
  obtain ⟨⟨r0, _⟩, ⟨r1, _⟩, ⟨r2, _⟩, ⟨r3, _⟩⟩ := (And.intro ((KR.out.to HW.out).2 0 _ rfl) (And.intro ((KR.out.to HW.out).2 1 _ rfl) (And.intro ((KR.out.to HW.out).2 2 _ rfl) ((KR.out.to HW.out).2 3 _ rfl))))
  clear CQ
  go_wp2_with fail
  refine (CT.out _ HW.out).mono ?_
  rintro e w6 ⟨rfl, hb⟩
  replace HW := hid (HW.out.trans (hb.mono HW.out.size))
  replace HV := hid (HV.out.trans (hb.mono HV.out.size))
  clear hb
  clear d0 d1 d2 r0 r1 r2 r3
  obtain ⟨⟨d0, _⟩, ⟨d1, _⟩, ⟨d2, _⟩⟩ := (And.intro ((KB.out.to HW.out).2 0 _ rfl) (And.intro ((KB.out.to HW.out).2 1 _ rfl) ((KB.out.to HW.out).2 2 _ rfl)))
  obtain ⟨⟨r0, _⟩, ⟨r1, _⟩, ⟨r2, _⟩, ⟨r3, _⟩⟩ := (And.intro ((KR.out.to HW.out).2 0 _ rfl) (And.intro ((KR.out.to HW.out).2 1 _ rfl) (And.intro ((KR.out.to HW.out).2 2 _ rfl) ((KR.out.to HW.out).2 3 _ rfl))))
  cases ok with
  | false =>
    go_wp2_with fail
    refine (CS.out _ HW.out).mono ?_
    rintro e w7 ⟨v7, rfl, ho7, hb⟩
    obtain ⟨A7, c7, rfl, _, _⟩ := (Sl.of_own ho7).form
    have CQ := hid (equalSent_c _ _ X.length w7.heap.size X w7 (((((Sl.of_own O3.out).below HV.out (Nat.le_refl _)).more HV.out.size).below hb (Nat.le_refl _)).more hb.size) (Sl.of_own ho7) (Nat.le_refl _))
    replace HW := hid (HW.out.trans (hb.mono HW.out.size))
    replace HV := hid (HV.out.trans (hb.mono HV.out.size))
    clear hb ho7
    clear d0 d1 d2 r0 r1 r2 r3
    obtain ⟨⟨d0, _⟩, ⟨d1, _⟩, ⟨d2, _⟩⟩ := (And.intro ((KB.out.to HW.out).2 0 _ rfl) (And.intro ((KB.out.to HW.out).2 1 _ rfl) ((KB.out.to HW.out).2 2 _ rfl)))
    obtain ⟨⟨r0, _⟩, ⟨r1, _⟩, ⟨r2, _⟩, ⟨r3, _⟩⟩ := (And.intro ((KR.out.to HW.out).2 0 _ rfl) (And.intro ((KR.out.to HW.out).2 1 _ rfl) (And.intro ((KR.out.to HW.out).2 2 _ rfl) ((KR.out.to HW.out).2 3 _ rfl))))
    go_wp2_with fail
    refine (CQ.out).mono ?_
    rintro e w8 ⟨rfl, hb⟩
    replace HW := hid (HW.out.trans (hb.mono HW.out.size))
    replace HV := hid (HV.out.trans (hb.mono HV.out.size))
    clear hb
    clear d0 d1 d2 r0 r1 r2 r3
    obtain ⟨⟨d0, _⟩, ⟨d1, _⟩, ⟨d2, _⟩⟩ := (And.intro ((KB.out.to HW.out).2 0 _ rfl) (And.intro ((KB.out.to HW.out).2 1 _ rfl) ((KB.out.to HW.out).2 2 _ rfl)))
    obtain ⟨⟨r0, _⟩, ⟨r1, _⟩, ⟨r2, _⟩, ⟨r3, _⟩⟩ := (And.intro ((KR.out.to HW.out).2 0 _ rfl) (And.intro ((KR.out.to HW.out).2 1 _ rfl) (And.intro ((KR.out.to HW.out).2 2 _ rfl) ((KR.out.to HW.out).2 3 _ rfl))))
    clear CQ
    go_wp2_with fail
    go_ret
    exact ⟨rfl, HB.out.trans (HW.out.mono HB.out.size)⟩
  | true =>
    have CV := hid (fun (W : World) => (show Calls Tryz.prog 16 #[.slice (some ⟨W.heap.size, 0, none⟩) 1 1] (W.alloc (.cells #[.string nm, .int .i64 lv, .string tx, .int .i64 sq] 28)) (BoolPost (W.alloc (.cells #[.string nm, .int .i64 lv, .string tx, .int .i64 sq] 28)) rok) from by have h9 := recLit_c W nm tx lv sq hz1 hz2; rw [hrok.out] at h9; exact h9))
    go_wp2_with fail
    refine (CV.out _).mono ?_
    rintro e w7 ⟨rfl, hb9⟩
    have hb := (show Below w6.heap.size w6 w7 from ((Below.refl _ _).alloc (Nat.le_refl _) _).trans (hb9.mono (by simp)))
    clear hb9
    replace HW := hid (HW.out.trans (hb.mono HW.out.size))
    replace HV := hid (HV.out.trans (hb.mono HV.out.size))
    clear hb
    clear d0 d1 d2 r0 r1 r2 r3
    obtain ⟨⟨d0, _⟩, ⟨d1, _⟩, ⟨d2, _⟩⟩ := (And.intro ((KB.out.to HW.out).2 0 _ rfl) (And.intro ((KB.out.to HW.out).2 1 _ rfl) ((KB.out.to HW.out).2 2 _ rfl)))
    obtain ⟨⟨r0, _⟩, ⟨r1, _⟩, ⟨r2, _⟩, ⟨r3, _⟩⟩ := (And.intro ((KR.out.to HW.out).2 0 _ rfl) (And.intro ((KR.out.to HW.out).2 1 _ rfl) (And.intro ((KR.out.to HW.out).2 2 _ rfl) ((KR.out.to HW.out).2 3 _ rfl))))
    cases rok with
    | false =>
      go_wp2_with fail
      refine (CS.out _ HW.out).mono ?_
      rintro e w8 ⟨v8, rfl, ho8, hb⟩
      obtain ⟨A8, c8, rfl, _, _⟩ := (Sl.of_own ho8).form
      have CQ := hid (equalSent_c _ _ X.length w8.heap.size X w8 (((((Sl.of_own O3.out).below HV.out (Nat.le_refl _)).more HV.out.size).below hb (Nat.le_refl _)).more hb.size) (Sl.of_own ho8) (Nat.le_refl _))
      replace HW := hid (HW.out.trans (hb.mono HW.out.size))
      replace HV := hid (HV.out.trans (hb.mono HV.out.size))
      clear hb ho8
      clear d0 d1 d2 r0 r1 r2 r3
      obtain ⟨⟨d0, _⟩, ⟨d1, _⟩, ⟨d2, _⟩⟩ := (And.intro ((KB.out.to HW.out).2 0 _ rfl) (And.intro ((KB.out.to HW.out).2 1 _ rfl) ((KB.out.to HW.out).2 2 _ rfl)))
      obtain ⟨⟨r0, _⟩, ⟨r1, _⟩, ⟨r2, _⟩, ⟨r3, _⟩⟩ := (And.intro ((KR.out.to HW.out).2 0 _ rfl) (And.intro ((KR.out.to HW.out).2 1 _ rfl) (And.intro ((KR.out.to HW.out).2 2 _ rfl) ((KR.out.to HW.out).2 3 _ rfl))))
      go_wp2_with fail
      refine (CQ.out).mono ?_
      rintro e w9 ⟨rfl, hb⟩
      replace HW := hid (HW.out.trans (hb.mono HW.out.size))
      replace HV := hid (HV.out.trans (hb.mono HV.out.size))
      clear hb
      clear d0 d1 d2 r0 r1 r2 r3
      obtain ⟨⟨d0, _⟩, ⟨d1, _⟩, ⟨d2, _⟩⟩ := (And.intro ((KB.out.to HW.out).2 0 _ rfl) (And.intro ((KB.out.to HW.out).2 1 _ rfl) ((KB.out.to HW.out).2 2 _ rfl)))
      obtain ⟨⟨r0, _⟩, ⟨r1, _⟩, ⟨r2, _⟩, ⟨r3, _⟩⟩ := (And.intro ((KR.out.to HW.out).2 0 _ rfl) (And.intro ((KR.out.to HW.out).2 1 _ rfl) (And.intro ((KR.out.to HW.out).2 2 _ rfl) ((KR.out.to HW.out).2 3 _ rfl))))
      clear CQ
      go_wp2_with fail
      go_ret
      exact ⟨rfl, HB.out.trans (HW.out.mono HB.out.size)⟩
    | true =>
      rcases FA.out with hn | ⟨ha1, ha2, hn, _⟩
      · have CA := hid (CA0.out hn)
        clear CA0 CA1 FA hn
        go_wp2_with fail
        refine (CA.out _ HW.out).mono ?_
        rintro e w8 ⟨vm, rsm, rfl, hsm, hrm, hb8⟩
        obtain ⟨A7, n7, k7, A8, n8, k8, rfl, -, -⟩ := hsm.form_ hrm
        have hbx : Below w8.heap.size w8 (w8.alloc (.cells #[.slice A7 n7 k7, .slice A8 n8 k8, .int .i64 0] 26)) := (Below.refl _ _).alloc (Nat.le_refl _) _
        have TM := hid ((hsm.at_ hrm fit_noneS).below hbx (Nat.le_refl _))
        have KM := hid (Blk.new w8 #[.slice A7 n7 k7, .slice A8 n8 k8, .int .i64 0] 26)
        have hlm : w8.heap.size < (w8.alloc (.cells #[.slice A7 n7 k7, .slice A8 n8 k8, .int .i64 0] 26)).heap.size := by simp
        have hb := hb8.trans (hbx.mono hb8.size)
        replace HW := hid (HW.out.trans (hb.mono HW.out.size))
        replace HV := hid (HV.out.trans (hb.mono HV.out.size))
        clear hb hb8 hbx hsm hrm
        clear d0 d1 d2 r0 r1 r2 r3
        obtain ⟨⟨d0, _⟩, ⟨d1, _⟩, ⟨d2, _⟩⟩ := (And.intro ((KB.out.to HW.out).2 0 _ rfl) (And.intro ((KB.out.to HW.out).2 1 _ rfl) ((KB.out.to HW.out).2 2 _ rfl)))
        obtain ⟨⟨r0, _⟩, ⟨r1, _⟩, ⟨r2, _⟩, ⟨r3, _⟩⟩ := (And.intro ((KR.out.to HW.out).2 0 _ rfl) (And.intro ((KR.out.to HW.out).2 1 _ rfl) (And.intro ((KR.out.to HW.out).2 2 _ rfl) ((KR.out.to HW.out).2 3 _ rfl))))
        go_wp2_with fail
        generalize hbm : w8.heap.size = bm at *
        generalize w8.alloc (.cells #[.slice A7 n7 k7, .slice A8 n8 k8, .int .i64 0] 26) = wm at *
        clear hbm
        go_wp2_with fail
        go_ret
        exact ⟨rfl, HB.out.trans (HW.out.mono HB.out.size)⟩
      · have CA := hid (CA1.out hn)
        have DX : dataFit (addT L nm.data.toList) H := by have h9 : dataFit (resL (addX L H q nm.data.toList)) (resH (addX L H q nm.data.toList)) := changed_fit _ _ _ _; rw [hn] at h9; exact h9
        have hz := And.intro (hok.out) (And.intro ha2 hrok.out)
        replace hz := hid hz
        replace DX := hid DX
        clear CA0 CA1 FA hn ha1 ha2
        go_wp2_with fail
        refine (CA.out _ HW.out).mono ?_
        rintro e w8 ⟨vm, rsm, rfl, hsm, hrm, hb8⟩
        obtain ⟨A7, n7, k7, A8, n8, k8, rfl, -, -⟩ := hsm.form_ hrm
        have hbx : Below w8.heap.size w8 (w8.alloc (.cells #[.slice A7 n7 k7, .slice A8 n8 k8, .int .i64 q] 26)) := (Below.refl _ _).alloc (Nat.le_refl _) _
        have TM := hid ((hsm.at_ hrm DX.out).below hbx (Nat.le_refl _))
        have KM := hid (Blk.new w8 #[.slice A7 n7 k7, .slice A8 n8 k8, .int .i64 q] 26)
        have hlm : w8.heap.size < (w8.alloc (.cells #[.slice A7 n7 k7, .slice A8 n8 k8, .int .i64 q] 26)).heap.size := by simp
        have hb := hb8.trans (hbx.mono hb8.size)
        replace HW := hid (HW.out.trans (hb.mono HW.out.size))
        replace HV := hid (HV.out.trans (hb.mono HV.out.size))
        clear hb hb8 hbx hsm hrm
        clear d0 d1 d2 r0 r1 r2 r3
        obtain ⟨⟨d0, _⟩, ⟨d1, _⟩, ⟨d2, _⟩⟩ := (And.intro ((KB.out.to HW.out).2 0 _ rfl) (And.intro ((KB.out.to HW.out).2 1 _ rfl) ((KB.out.to HW.out).2 2 _ rfl)))
        obtain ⟨⟨r0, _⟩, ⟨r1, _⟩, ⟨r2, _⟩, ⟨r3, _⟩⟩ := (And.intro ((KR.out.to HW.out).2 0 _ rfl) (And.intro ((KR.out.to HW.out).2 1 _ rfl) (And.intro ((KR.out.to HW.out).2 2 _ rfl) ((KR.out.to HW.out).2 3 _ rfl))))
        go_wp2_with fail
        generalize hbm : w8.heap.size = bm at *
        generalize w8.alloc (.cells #[.slice A7 n7 k7, .slice A8 n8 k8, .int .i64 q] 26) = wm at *
        clear hbm
        have CM := hid (show Calls Tryz.prog 12 #[.agg #[.slice A7 n7 k7, .slice A8 n8 k8, .int .i64 q], .agg #[.string nm, .int .i64 lv, .string tx, .int .i64 sq]] wm (RowPost wm 41 6 X.length (X.flatMap sncells)) from by have h9 := implSendRecord_c nm tx lv sq TM.out (Nat.le_of_lt hlm) hz1 hz2; rw [send_add (r := ⟨nm.data.toList, lv, tx.data.toList, sq⟩) hz.out.1 hz.out.2.1 hz.out.2.2, hX.out] at h9; exact h9)
        refine CM.out.mono ?_
        rintro e w60 ⟨v60, rfl, ho60, hb⟩
        obtain ⟨A60, c60, rfl, _, _⟩ := (Sl.of_own ho60).form
        have CQ := hid (equalSent_c _ _ X.length w60.heap.size X w60 (Sl.of_own ho60) (((((Sl.of_own O3.out).below HV.out (Nat.le_refl _)).more HV.out.size).below hb (Nat.le_refl _)).more hb.size) (Nat.le_refl _))
        replace HW := hid (HW.out.trans (hb.mono HW.out.size))
        replace HV := hid (HV.out.trans (hb.mono HV.out.size))
        clear hb ho60
        clear d0 d1 d2 r0 r1 r2 r3
        obtain ⟨⟨d0, _⟩, ⟨d1, _⟩, ⟨d2, _⟩⟩ := (And.intro ((KB.out.to HW.out).2 0 _ rfl) (And.intro ((KB.out.to HW.out).2 1 _ rfl) ((KB.out.to HW.out).2 2 _ rfl)))
        obtain ⟨⟨r0, _⟩, ⟨r1, _⟩, ⟨r2, _⟩, ⟨r3, _⟩⟩ := (And.intro ((KR.out.to HW.out).2 0 _ rfl) (And.intro ((KR.out.to HW.out).2 1 _ rfl) (And.intro ((KR.out.to HW.out).2 2 _ rfl) ((KR.out.to HW.out).2 3 _ rfl))))
        go_wp2_with fail
        refine (CQ.out).mono ?_
        rintro e w61 ⟨rfl, hb⟩
        replace HW := hid (HW.out.trans (hb.mono HW.out.size))
        replace HV := hid (HV.out.trans (hb.mono HV.out.size))
        clear hb
        clear d0 d1 d2 r0 r1 r2 r3
        obtain ⟨⟨d0, _⟩, ⟨d1, _⟩, ⟨d2, _⟩⟩ := (And.intro ((KB.out.to HW.out).2 0 _ rfl) (And.intro ((KB.out.to HW.out).2 1 _ rfl) ((KB.out.to HW.out).2 2 _ rfl)))
        obtain ⟨⟨r0, _⟩, ⟨r1, _⟩, ⟨r2, _⟩, ⟨r3, _⟩⟩ := (And.intro ((KR.out.to HW.out).2 0 _ rfl) (And.intro ((KR.out.to HW.out).2 1 _ rfl) (And.intro ((KR.out.to HW.out).2 2 _ rfl) ((KR.out.to HW.out).2 3 _ rfl))))
        go_wp2_with fail
        go_ret
        exact ⟨rfl, HB.out.trans (HW.out.mono HB.out.size)⟩
end Go.Proofs.YtioegkcekbkblaaGreat
