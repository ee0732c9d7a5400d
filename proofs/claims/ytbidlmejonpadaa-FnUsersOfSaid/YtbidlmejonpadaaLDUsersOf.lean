/-
  WALK: the law FnUsersOf. By gen_t.py.
-/
import Derived.Test.YtbidlmejonpadaaE11
namespace Go.Proofs.Ytbidlmejonpadaa
open Go.RowKit Nm
set_option linter.unusedSimpArgs false
set_option linter.unusedVariables false

set_option maxHeartbeats 8000000 in
set_option maxRecDepth 100000 in
theorem walk_FnUsersOf (a0 : Option Addr) (len0 cap0 : Nat) (z0 : List Int) (w : World) (w0 : IsRow .u8 w a0 len0 cap0 z0) :
    Calls Try.prog 10 #[.slice a0 len0 cap0] w (BoolPost w true) := by
  have hb0 := w0.leT
  by_cases h1 : (1048576 : Int) < (len0 : Int)
  · go_enter Try.func10, Try.ntmps10
    go_wp2_with fail
    go_ret
    exact ⟨rfl, Below.refl _ _⟩
  have DR := hid (drawUsersOf_c a0 len0 cap0 z0 w w0)
  clear w0
  go_enter Try.func10, Try.ntmps10
  go_wp2_with fail
  refine DR.out.mono ?_
  rintro e w1 ⟨v, rs, L, H, q, nm, rfl, hs, hsm, hnm, hr, hb⟩
  obtain ⟨A1, n1, k1, A2, n2, k2, rfl, hn1, hn2⟩ := hs.form_ hr
  have hd := sm_fit hsm (by omega)
  have TI0 := hs.at_ hr hd
  have hbx : Below w1.heap.size w1 (w1.alloc (.cells #[.slice A1 n1 k1, .slice A2 n2 k2, .int .i64 q] 32)) := (Below.refl _ _).alloc (Nat.le_refl _) _
  have TI := hid (TI0.below hbx (Nat.le_refl _))
  have KB := hid (Blk.new w1 #[.slice A1 n1 k1, .slice A2 n2 k2, .int .i64 q] 32)
  have HB := hid (hb.trans (hbx.mono hb.size))
  have hl1 : w1.heap.size < (w1.alloc (.cells #[.slice A1 n1 k1, .slice A2 n2 k2, .int .i64 q] 32)).heap.size := by simp
  have HL := hid (And.intro hn1 (And.intro hsm.1 hsm.2.1.1))
  replace hd := hid hd
  clear hs hr hb hn1 hn2 hsm TI0 hbx DR
  go_wp2_with fail
  generalize hbb : w1.heap.size = bb at *
  generalize w1.alloc (.cells #[.slice A1 n1 k1, .slice A2 n2 k2, .int .i64 q] 32) = w2 at *
  clear hbb
  have d0 := (KB.out.2 0 _ rfl).1
  have d1 := (KB.out.2 1 _ rfl).1
  have d2 := (KB.out.2 2 _ rfl).1
  have HW := hid (Below.refl w2.heap.size w2)
  have TT := hid (fun (W : World) (hW : Below w2.heap.size w2 W) => (And.intro (TI.out.below hW (Nat.le_of_lt hl1)) (Nat.le_trans (Nat.le_of_lt hl1) hW.size)))
  have CI := hid (fun (W : World) (hW : Below w2.heap.size w2 W) => implUsersOf_c nm (TT.out W hW).1 (TT.out W hW).2)
  have CS := hid (fun (W : World) (hW : Below w2.heap.size w2 W) => specUsersOf_c nm (TT.out W hW).1 (TT.out W hW).2)
  have CT := hid (fun (W : World) (hW : Below w2.heap.size w2 W) => implValidTreeX_c (TT.out W hW).1 (TT.out W hW).2)
  have FM := hid (fun (h : treeOk L H q = true) (k : Nat) (hk : k < L.length) => users_mem h nm.data.toList hk)
  have FL := hid (fun (h : treeOk L H q = true) => users_le h nm.data.toList)
  have hn8 : n1 ≤ 8 := by rw [HL.out.1]; exact HL.out.2.2
  have hN1 := HL.out.1
  replace hN1 := hid hN1
  have hP8 := usersT_len L H q nm.data.toList
  generalize hP : usersT L H q nm.data.toList = P at *
  generalize hok : treeOk L H q = ok at *
  replace hok := hid hok
  clear hP
  go_wp2_with fail
  refine (CI.out _ HW.out).mono ?_
  rintro e w3 ⟨v3, rfl, ho3, hb⟩
  obtain ⟨A3, c3, rfl, hc3, hm3⟩ := (Sl.of_own ho3).form
  have HW3 := hid (HW.out.trans (hb.mono HW.out.size))
  generalize hn3 : P.length = n3 at *
  have O3 := hid ho3
  have HV3 := hid (Below.refl w3.heap.size w3)
  replace hn3 := hid hn3
  clear hb ho3 d0 d1 d2
  obtain ⟨⟨d0, _⟩, ⟨d1, _⟩, ⟨d2, _⟩⟩ := (And.intro ((KB.out.to HW3.out).2 0 _ rfl) (And.intro ((KB.out.to HW3.out).2 1 _ rfl) ((KB.out.to HW3.out).2 2 _ rfl)))
  go_wp2_with fail
  refine (CS.out _ HW3.out).mono ?_
  rintro e w4 ⟨v4, rfl, ho4, hb⟩
  obtain ⟨A4, c4, rfl, hc4, hm4⟩ := (Sl.of_own ho4).form
  have CQ := hid (equalTexts_c _ _ _ _ w4.heap.size P P w4 (((Sl.of_own O3.out).below hb (Nat.le_refl _)).more hb.size) (Sl.of_own ho4) (Nat.le_refl _))
  clear ho4
  clear d0 d1 d2
  have HW4 := hid (HW3.out.trans (hb.mono HW3.out.size))
  have HV4 := hid (HV3.out.trans (hb.mono HV3.out.size))
  clear hb
  obtain ⟨⟨d0, _⟩, ⟨d1, _⟩, ⟨d2, _⟩⟩ := (And.intro ((KB.out.to HW4.out).2 0 _ rfl) (And.intro ((KB.out.to HW4.out).2 1 _ rfl) ((KB.out.to HW4.out).2 2 _ rfl)))
  go_wp2_with fail
  refine CQ.out.mono ?_
  rintro e w5 ⟨rfl, hb⟩
  simp only [decide_true]
  clear d0 d1 d2
  have HW5 := hid (HW4.out.trans (hb.mono HW4.out.size))
  have HV5 := hid (HV4.out.trans (hb.mono HV4.out.size))
  clear hb
  obtain ⟨⟨d0, _⟩, ⟨d1, _⟩, ⟨d2, _⟩⟩ := (And.intro ((KB.out.to HW5.out).2 0 _ rfl) (And.intro ((KB.out.to HW5.out).2 1 _ rfl) ((KB.out.to HW5.out).2 2 _ rfl)))
  go_wp2_with fail
  refine (CT.out _ HW5.out).mono ?_
  rintro e w6 ⟨rfl, hb⟩
  clear d0 d1 d2
  have HW6 := hid (HW5.out.trans (hb.mono HW5.out.size))
  have HV6 := hid (HV5.out.trans (hb.mono HV5.out.size))
  clear hb
  obtain ⟨⟨d0, _⟩, ⟨d1, _⟩, ⟨d2, _⟩⟩ := (And.intro ((KB.out.to HW6.out).2 0 _ rfl) (And.intro ((KB.out.to HW6.out).2 1 _ rfl) ((KB.out.to HW6.out).2 2 _ rfl)))
  cases ok with
  | false =>
    go_wp2_with fail
    refine (CS.out _ HW6.out).mono ?_
    rintro e w7 ⟨v7, rfl, ho7, hb⟩
    obtain ⟨A7, c7, rfl, hc7, hm7⟩ := (Sl.of_own ho7).form
    have CQ7 := hid (equalTexts_c _ _ _ _ w7.heap.size P P w7 ((((Sl.of_own O3.out).below HV6.out (Nat.le_refl _)).more HV6.out.size).below hb (Nat.le_refl _) |>.more hb.size) (Sl.of_own ho7) (Nat.le_refl _))
    clear ho7
    clear d0 d1 d2
    have HW7 := hid (HW6.out.trans (hb.mono HW6.out.size))
    have HV7 := hid (HV6.out.trans (hb.mono HV6.out.size))
    clear hb
    obtain ⟨⟨d0, _⟩, ⟨d1, _⟩, ⟨d2, _⟩⟩ := (And.intro ((KB.out.to HW7.out).2 0 _ rfl) (And.intro ((KB.out.to HW7.out).2 1 _ rfl) ((KB.out.to HW7.out).2 2 _ rfl)))
    go_wp2_with fail
    refine CQ7.out.mono ?_
    rintro e w8 ⟨rfl, hb⟩
    simp only [decide_true]
    clear d0 d1 d2
    have HW8 := hid (HW7.out.trans (hb.mono HW7.out.size))
    have HV8 := hid (HV7.out.trans (hb.mono HV7.out.size))
    clear hb
    obtain ⟨⟨d0, _⟩, ⟨d1, _⟩, ⟨d2, _⟩⟩ := (And.intro ((KB.out.to HW8.out).2 0 _ rfl) (And.intro ((KB.out.to HW8.out).2 1 _ rfl) ((KB.out.to HW8.out).2 2 _ rfl)))
    go_wp2_with fail
    go_ret
    exact ⟨rfl, HB.out.trans (HW8.out.mono HB.out.size)⟩
  | true =>
    replace FM := hid (FM.out (by trivial))
    replace FL := hid (FL.out (by trivial))
    clear d0 d1 d2 CQ
    have d0 := ((KB.out.to HW6.out).2 0 _ rfl).1
    go_wp2_with fail
    go_loopw [6] (fun kv wr => ∃ k : Nat, kv = .int .i64 k ∧ k ≤ n1 ∧ Hid (Below w2.heap.size w2 wr) ∧ Hid (Below w3.heap.size w3 wr)) (fun kv _ => n1 - (intOf kv).toNat)
    case atStart => exact ⟨0, rfl, Nat.zero_le _, HW6.out, HV6.out⟩
    case round =>
      obtain ⟨k, rfl, hk, HWr, HVr⟩ := hrel
      clear d0
      have d0 := ((KB.out.to HWr.out).2 0 _ rfl).1
      by_cases hkn : k < n1
      · obtain ⟨b, o, x, s, rfl, hbB, hx, hsx, hsz, -, -⟩ := (TT.out _ HWr.out).1.name hkn
        obtain ⟨ls, hl, hL⟩ := (TT.out _ HWr.out).1.loggers
        obtain ⟨p, A5, hn5, k5, A6, fn6, k6, hp, hps, ht, _, c0, _, c2, _⟩ := logger_at hl hL hkn
        have hF := FM.out k (by rw [← hN1.out]; exact hkn)
        rw [← hp] at hF
        have T1 : HTB wr (.slice A5 hn5 k5) nm (decide (nm.data.toList ∈ hsAt L k)) := htb_of ht.1 (TT.out _ HWr.out).2
        have T2 : HTB wr (.slice A3 n3 c3) p (decide (p.data.toList ∈ P)) := htb_of (((Sl.of_own O3.out).below HVr.out (Nat.le_refl _)).more HVr.out.size) (Nat.le_refl _)
        rw [← hF] at T2
        have s0 : (0 : Int) ≤ (k : Int) := by omega
        have s1 : (k : Int) < (n1 : Int) := by omega
        have s2 : ((k : Int)).toNat = k := by simp
        clear hF hx hsx hsz hl hL hp hps ht
        generalize decide (nm.data.toList ∈ hsAt L k) = bq at *
        have b0 : (bq != bq) = false := by simp
        have b1 : (bq == bq) = true := by simp
        go_wp2_with fail
        go_quiet ((go_at_call 40; exact Calls.quiet_of_same (htb_use (by assumption) (below_dr (Below.refl _ _) _))))
        go_wp2_with fail
        go_roundw
        case rel => exact ⟨k + 1, by go_num, by omega, below_dr HWr.out _, below_dr HVr.out _⟩
        case measure => simp [intOf]; omega
      · have q1 : (n3 : Int) ≤ (n1 : Int) := by have h1 := FL.out; have h2 := hN1.out; omega
        go_wp2_with fail
        go_ret
        exact ⟨rfl, HB.out.trans (HWr.out.mono HB.out.size)⟩
end Go.Proofs.Ytbidlmejonpadaa
