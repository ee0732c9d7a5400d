/-
  WALK: the law FnSendRecordLevels. By gen_sr.py.
-/
import Derived.Test.YtioegkcekbkblaaGreatSR2
import Derived.Test.YtioegkcekbkblaaGreatE25
import Derived.Test.YtioegkcekbkblaaGreatSN9
import Derived.Test.YtioegkcekbkblaaGreatEqSent
import Derived.Test.YtioegkcekbkblaaGreatLookI
namespace Go.Proofs.YtioegkcekbkblaaGreat
open Go.RowKit Go.Proofs.YtioegkcekbkblaaGreat.Nm
set_option linter.unusedSimpArgs false
set_option linter.unusedVariables false

set_option maxHeartbeats 8000000 in
set_option maxRecDepth 100000 in
theorem walk_FnSendRecordLevels (a0 : Option Addr) (len0 cap0 : Nat) (z0 : List Int) (w : World) (w0 : IsRow .u8 w a0 len0 cap0 z0) :
    Calls Tryz.prog 4 #[.slice a0 len0 cap0] w (BoolPost w true) := by
  have hb0 := w0.leT
  by_cases h1 : (1048576 : Int) < (len0 : Int)
  · go_enter Tryz.func4, Tryz.ntmps4
    go_wp2_with fail
    go_ret
    exact ⟨rfl, Below.refl _ _⟩
  have DR := hid (drawSendRecord_c a0 len0 cap0 z0 w w0)
  clear w0
  go_enter Tryz.func4, Tryz.ntmps4
  go_wp2_with fail
  refine DR.out.mono ?_
  rintro e w1 ⟨v, rs, L, H, q, nm, tx, lv, sq, rfl, hs, hsm, ⟨hnm, htx⟩, hlv, hsq, hr, hb⟩
  obtain ⟨A1, n1, k1, A2, n2, k2, rfl, hn1, hn2⟩ := hs.form_ hr
  have hd := sm_fit hsm (by omega)
  have TI0 := hs.at_ hr hd
  have hbx : Below w1.heap.size w1 (((w1.alloc (.cells #[.slice A1 n1 k1, .slice A2 n2 k2, .int .i64 q] 26)).alloc (.cells #[.string nm, .int .i64 lv, .string tx, .int .i64 sq] 28))) := ((Below.refl _ _).alloc (Nat.le_refl _) _).alloc (by simp) _
  have TI := hid (TI0.below hbx (Nat.le_refl _))
  have KB := hid ((Blk.new w1 #[.slice A1 n1 k1, .slice A2 n2 k2, .int .i64 q] 26).alloc (.cells #[.string nm, .int .i64 lv, .string tx, .int .i64 sq] 28))
  have KR := hid (Blk.new (w1.alloc (.cells #[.slice A1 n1 k1, .slice A2 n2 k2, .int .i64 q] 26)) #[.string nm, .int .i64 lv, .string tx, .int .i64 sq] 28)
  simp only [World.size_alloc] at KR
  have HB := hid (hb.trans (hbx.mono hb.size))
  have hl1 : w1.heap.size < (((w1.alloc (.cells #[.slice A1 n1 k1, .slice A2 n2 k2, .int .i64 q] 26)).alloc (.cells #[.string nm, .int .i64 lv, .string tx, .int .i64 sq] 28))).heap.size := by simp; omega
  have HL := hid (And.intro hn1 (And.intro hn2 (And.intro hsm.2.2.1 (And.intro hsm.1 hsm.2.1.1))))
  replace hd := hid hd
  clear hs hr hb hn1 hn2 hsm TI0 hbx DR hlv hsq
  go_wp2_with fail
  generalize hbb : w1.heap.size = bb at *
  generalize ((w1.alloc (.cells #[.slice A1 n1 k1, .slice A2 n2 k2, .int .i64 q] 26)).alloc (.cells #[.string nm, .int .i64 lv, .string tx, .int .i64 sq] 28)) = w2 at *
  clear hbb
  have HW := hid (Below.refl w2.heap.size w2)
  have TT := hid (fun (W : World) (hW : Below w2.heap.size w2 W) => (And.intro (TI.out.below hW (Nat.le_of_lt hl1)) (Nat.le_trans (Nat.le_of_lt hl1) hW.size)))
  obtain ⟨⟨d0, _⟩, ⟨d1, _⟩, ⟨d2, _⟩⟩ := (And.intro ((KB.out.to HW.out).2 0 _ rfl) (And.intro ((KB.out.to HW.out).2 1 _ rfl) ((KB.out.to HW.out).2 2 _ rfl)))
  obtain ⟨⟨r0, _⟩, ⟨r1, _⟩, ⟨r2, _⟩, ⟨r3, _⟩⟩ := (And.intro ((KR.out.to HW.out).2 0 _ rfl) (And.intro ((KR.out.to HW.out).2 1 _ rfl) (And.intro ((KR.out.to HW.out).2 2 _ rfl) ((KR.out.to HW.out).2 3 _ rfl))))
  have hz1 : nm.size ≤ 1048576 := by omega
  have hz2 : tx.size ≤ 1048576 := by omega
  have CI := hid (fun (W : World) (hW : Below w2.heap.size w2 W) => implSendRecord_c nm tx lv sq (TT.out W hW).1 (TT.out W hW).2 hz1 hz2)
  have CS := hid (fun (W : World) (hW : Below w2.heap.size w2 W) => specSendRecord_c nm tx lv sq (TT.out W hW).1 (TT.out W hW).2 hz1 hz2)
  have CT := hid (fun (W : World) (hW : Below w2.heap.size w2 W) => implValidTreeX_c (TT.out W hW).1 (TT.out W hW).2)
  have FX := hid (sendX_facts (L := L) (H := H) (q := q) (r := ⟨nm.data.toList, lv, tx.data.toList, sq⟩))
  obtain ⟨X, hX⟩ : ∃ X, sendX L H q ⟨nm.data.toList, lv, tx.data.toList, sq⟩ = X := ⟨_, rfl⟩
  rw [hX] at CI CS
  generalize hok : treeOk L H q = ok at *
  generalize hrok : recOk ⟨nm.data.toList, lv, tx.data.toList, sq⟩ = rok at *
  replace hok := hid hok
  replace hrok := hid hrok
  replace hX := hid hX
  rw [hX.out] at FX
  go_wp2_with fail
  refine (CI.out _ HW.out).mono ?_
  rintro e w3 ⟨v3, rfl, ho3, hb⟩
  obtain ⟨A3, c3, rfl, hc3, hm3⟩ := (Sl.of_own ho3).form
  unfold maxLen at hm3
  replace HW := hid (HW.out.trans (hb.mono HW.out.size))
  clear hb
  clear d0 d1 d2 r0 r1 r2 r3
  obtain ⟨⟨d0, _⟩, ⟨d1, _⟩, ⟨d2, _⟩⟩ := (And.intro ((KB.out.to HW.out).2 0 _ rfl) (And.intro ((KB.out.to HW.out).2 1 _ rfl) ((KB.out.to HW.out).2 2 _ rfl)))
  obtain ⟨⟨r0, _⟩, ⟨r1, _⟩, ⟨r2, _⟩, ⟨r3, _⟩⟩ := (And.intro ((KR.out.to HW.out).2 0 _ rfl) (And.intro ((KR.out.to HW.out).2 1 _ rfl) (And.intro ((KR.out.to HW.out).2 2 _ rfl) ((KR.out.to HW.out).2 3 _ rfl))))
  have O3 := hid ho3
  have HV := hid (Below.refl w3.heap.size w3)
  clear ho3
  go_wp2_with fail
  refine (CS.out _ HW.out).mono ?_
  rintro e w4 ⟨v4, rfl, ho4, hb⟩
  obtain ⟨A4, c4, rfl, _, _⟩ := (Sl.of_own ho4).form
  have CQ := hid (equalSent_c _ _ X.length w4.heap.size X w4 (((((Sl.of_own O3.out).below HV.out (Nat.le_refl _)).more HV.out.size).below hb (Nat.le_refl _)).more hb.size) (Sl.of_own ho4) (Nat.le_refl _))
  replace HW := hid (HW.out.trans (hb.mono HW.out.size))
  replace HV := hid (HV.out.trans (hb.mono HV.out.size))
  clear hb ho4
  clear d0 d1 d2 r0 r1 r2 r3
  obtain ⟨⟨d0, _⟩, ⟨d1, _⟩, ⟨d2, _⟩⟩ := (And.intro ((KB.out.to HW.out).2 0 _ rfl) (And.intro ((KB.out.to HW.out).2 1 _ rfl) ((KB.out.to HW.out).2 2 _ rfl)))
  obtain ⟨⟨r0, _⟩, ⟨r1, _⟩, ⟨r2, _⟩, ⟨r3, _⟩⟩ := (And.intro ((KR.out.to HW.out).2 0 _ rfl) (And.intro ((KR.out.to HW.out).2 1 _ rfl) (And.intro ((KR.out.to HW.out).2 2 _ rfl) ((KR.out.to HW.out).2 3 _ rfl))))
  go_wp2_with fail
  refine (CQ.out).mono ?_
  rintro e w5 ⟨rfl, hb⟩
  replace HW := hid (HW.out.trans (hb.mono HW.out.size))
  replace HV := hid (HV.out.trans (hb.mono HV.out.size))
  clear hb
  clear d0 d1 d2 r0 r1 r2 r3
  obtain ⟨⟨d0, _⟩, ⟨d1, _⟩, ⟨d2, _⟩⟩ := (And.intro ((KB.out.to HW.out).2 0 _ rfl) (And.intro ((KB.out.to HW.out).2 1 _ rfl) ((KB.out.to HW.out).2 2 _ rfl)))
  obtain ⟨⟨r0, _⟩, ⟨r1, _⟩, ⟨r2, _⟩, ⟨r3, _⟩⟩ := (And.intro ((KR.out.to HW.out).2 0 _ rfl) (And.intro ((KR.out.to HW.out).2 1 _ rfl) (And.intro ((KR.out.to HW.out).2 2 _ rfl) ((KR.out.to HW.out).2 3 _ rfl))))
  clear CQ
  go_wp2_with fail
  refine (CT.out _ HW.out).mono ?_
  rintro e w6 ⟨rfl, hb⟩
  replace HW := hid (HW.out.trans (hb.mono HW.out.size))
  replace HV := hid (HV.out.trans (hb.mono HV.out.size))
  clear hb
  clear d0 d1 d2 r0 r1 r2 r3
  obtain ⟨⟨d0, _⟩, ⟨d1, _⟩, ⟨d2, _⟩⟩ := (And.intro ((KB.out.to HW.out).2 0 _ rfl) (And.intro ((KB.out.to HW.out).2 1 _ rfl) ((KB.out.to HW.out).2 2 _ rfl)))
  obtain ⟨⟨r0, _⟩, ⟨r1, _⟩, ⟨r2, _⟩, ⟨r3, _⟩⟩ := (And.intro ((KR.out.to HW.out).2 0 _ rfl) (And.intro ((KR.out.to HW.out).2 1 _ rfl) (And.intro ((KR.out.to HW.out).2 2 _ rfl) ((KR.out.to HW.out).2 3 _ rfl))))
  cases ok with
  | false =>
    go_wp2_with fail
    refine (CS.out _ HW.out).mono ?_
    rintro e w7 ⟨v7, rfl, ho7, hb⟩
    obtain ⟨A7, c7, rfl, _, _⟩ := (Sl.of_own ho7).form
    have CQ := hid (equalSent_c _ _ X.length w7.heap.size X w7 (((((Sl.of_own O3.out).below HV.out (Nat.le_refl _)).more HV.out.size).below hb (Nat.le_refl _)).more hb.size) (Sl.of_own ho7) (Nat.le_refl _))
    replace HW := hid (HW.out.trans (hb.mono HW.out.size))
    replace HV := hid (HV.out.trans (hb.mono HV.out.size))
    clear hb ho7
    clear d0 d1 d2 r0 r1 r2 r3
    obtain ⟨⟨d0, _⟩, ⟨d1, _⟩, ⟨d2, _⟩⟩ := (And.intro ((KB.out.to HW.out).2 0 _ rfl) (And.intro ((KB.out.to HW.out).2 1 _ rfl) ((KB.out.to HW.out).2 2 _ rfl)))
    obtain ⟨⟨r0, _⟩, ⟨r1, _⟩, ⟨r2, _⟩, ⟨r3, _⟩⟩ := (And.intro ((KR.out.to HW.out).2 0 _ rfl) (And.intro ((KR.out.to HW.out).2 1 _ rfl) (And.intro ((KR.out.to HW.out).2 2 _ rfl) ((KR.out.to HW.out).2 3 _ rfl))))
    go_wp2_with fail
    refine (CQ.out).mono ?_
    rintro e w8 ⟨rfl, hb⟩
    replace HW := hid (HW.out.trans (hb.mono HW.out.size))
    replace HV := hid (HV.out.trans (hb.mono HV.out.size))
    clear hb
    clear d0 d1 d2 r0 r1 r2 r3
    obtain ⟨⟨d0, _⟩, ⟨d1, _⟩, ⟨d2, _⟩⟩ := (And.intro ((KB.out.to HW.out).2 0 _ rfl) (And.intro ((KB.out.to HW.out).2 1 _ rfl) ((KB.out.to HW.out).2 2 _ rfl)))
    obtain ⟨⟨r0, _⟩, ⟨r1, _⟩, ⟨r2, _⟩, ⟨r3, _⟩⟩ := (And.intro ((KR.out.to HW.out).2 0 _ rfl) (And.intro ((KR.out.to HW.out).2 1 _ rfl) (And.intro ((KR.out.to HW.out).2 2 _ rfl) ((KR.out.to HW.out).2 3 _ rfl))))
    clear CQ
    go_wp2_with fail
    go_ret
    exact ⟨rfl, HB.out.trans (HW.out.mono HB.out.size)⟩
  | true =>
    have CV := hid (fun (W : World) => (show Calls Tryz.prog 16 #[.slice (some ⟨W.heap.size, 0, none⟩) 1 1] (W.alloc (.cells #[.string nm, .int .i64 lv, .string tx, .int .i64 sq] 28)) (BoolPost (W.alloc (.cells #[.string nm, .int .i64 lv, .string tx, .int .i64 sq] 28)) rok) from by have h9 := recLit_c W nm tx lv sq hz1 hz2; rw [hrok.out] at h9; exact h9))
    go_wp2_with fail
    refine (CV.out _).mono ?_
    rintro e w7 ⟨rfl, hb9⟩
    have hb := (show Below w6.heap.size w6 w7 from ((Below.refl _ _).alloc (Nat.le_refl _) _).trans (hb9.mono (by simp)))
    clear hb9
    replace HW := hid (HW.out.trans (hb.mono HW.out.size))
    replace HV := hid (HV.out.trans (hb.mono HV.out.size))
    clear hb
    clear d0 d1 d2 r0 r1 r2 r3
    obtain ⟨⟨d0, _⟩, ⟨d1, _⟩, ⟨d2, _⟩⟩ := (And.intro ((KB.out.to HW.out).2 0 _ rfl) (And.intro ((KB.out.to HW.out).2 1 _ rfl) ((KB.out.to HW.out).2 2 _ rfl)))
    obtain ⟨⟨r0, _⟩, ⟨r1, _⟩, ⟨r2, _⟩, ⟨r3, _⟩⟩ := (And.intro ((KR.out.to HW.out).2 0 _ rfl) (And.intro ((KR.out.to HW.out).2 1 _ rfl) (And.intro ((KR.out.to HW.out).2 2 _ rfl) ((KR.out.to HW.out).2 3 _ rfl))))
    cases rok with
    | false =>
      go_wp2_with fail
      refine (CS.out _ HW.out).mono ?_
      rintro e w8 ⟨v8, rfl, ho8, hb⟩
      obtain ⟨A8, c8, rfl, _, _⟩ := (Sl.of_own ho8).form
      have CQ := hid (equalSent_c _ _ X.length w8.heap.size X w8 (((((Sl.of_own O3.out).below HV.out (Nat.le_refl _)).more HV.out.size).below hb (Nat.le_refl _)).more hb.size) (Sl.of_own ho8) (Nat.le_refl _))
      replace HW := hid (HW.out.trans (hb.mono HW.out.size))
      replace HV := hid (HV.out.trans (hb.mono HV.out.size))
      clear hb ho8
      clear d0 d1 d2 r0 r1 r2 r3
      obtain ⟨⟨d0, _⟩, ⟨d1, _⟩, ⟨d2, _⟩⟩ := (And.intro ((KB.out.to HW.out).2 0 _ rfl) (And.intro ((KB.out.to HW.out).2 1 _ rfl) ((KB.out.to HW.out).2 2 _ rfl)))
      obtain ⟨⟨r0, _⟩, ⟨r1, _⟩, ⟨r2, _⟩, ⟨r3, _⟩⟩ := (And.intro ((KR.out.to HW.out).2 0 _ rfl) (And.intro ((KR.out.to HW.out).2 1 _ rfl) (And.intro ((KR.out.to HW.out).2 2 _ rfl) ((KR.out.to HW.out).2 3 _ rfl))))
      go_wp2_with fail
      refine (CQ.out).mono ?_
      rintro e w9 ⟨rfl, hb⟩
      replace HW := hid (HW.out.trans (hb.mono HW.out.size))
      replace HV := hid (HV.out.trans (hb.mono HV.out.size))
      clear hb
      clear d0 d1 d2 r0 r1 r2 r3
      obtain ⟨⟨d0, _⟩, ⟨d1, _⟩, ⟨d2, _⟩⟩ := (And.intro ((KB.out.to HW.out).2 0 _ rfl) (And.intro ((KB.out.to HW.out).2 1 _ rfl) ((KB.out.to HW.out).2 2 _ rfl)))
      obtain ⟨⟨r0, _⟩, ⟨r1, _⟩, ⟨r2, _⟩, ⟨r3, _⟩⟩ := (And.intro ((KR.out.to HW.out).2 0 _ rfl) (And.intro ((KR.out.to HW.out).2 1 _ rfl) (And.intro ((KR.out.to HW.out).2 2 _ rfl) ((KR.out.to HW.out).2 3 _ rfl))))
      clear CQ
      go_wp2_with fail
      go_ret
      exact ⟨rfl, HB.out.trans (HW.out.mono HB.out.size)⟩
    | true =>
      generalize hn3 : X.length = n3 at *
      replace hn3 := hid hn3
      have hn2 := HL.out.2.1
      have hn9 : n2 ≤ 9 := by have := HL.out.2.2.1; omega
      replace hn2 := hid hn2
      go_wp2_with fail
      go_loopw [6] (fun kv wr => ∃ k : Nat, kv = .int .i64 k ∧ k ≤ n3 ∧ Hid (Below w2.heap.size w2 wr) ∧ Hid (Below w3.heap.size w3 wr)) (fun kv _ => n3 - (intOf kv).toNat)
      case atStart => exact ⟨0, rfl, Nat.zero_le _, HW.out, HV.out⟩
      case round =>
        obtain ⟨k, rfl, hk, HWr, HVr⟩ := hrel
        clear d0 d1 d2 r0 r1 r2 r3
        obtain ⟨⟨d0, _⟩, ⟨d1, _⟩, ⟨d2, _⟩⟩ := (And.intro ((KB.out.to HWr.out).2 0 _ rfl) (And.intro ((KB.out.to HWr.out).2 1 _ rfl) ((KB.out.to HWr.out).2 2 _ rfl)))
        obtain ⟨⟨r0, _⟩, ⟨r1, _⟩, ⟨r2, _⟩, ⟨r3, _⟩⟩ := (And.intro ((KR.out.to HWr.out).2 0 _ rfl) (And.intro ((KR.out.to HWr.out).2 1 _ rfl) (And.intro ((KR.out.to HWr.out).2 2 _ rfl) ((KR.out.to HWr.out).2 3 _ rfl))))
        by_cases hkn : k < n3
        · obtain ⟨b, o, lg, hd3, nm3, lv3, tx3, sq3, rfl, hbB, hx, g0, g1, g2, g3, g4, g5⟩ := sncells_at ((Sl.of_own O3.out).below HVr.out (Nat.le_refl _)) hkn
          obtain ⟨f1, f2, f3, f4, f5⟩ := FX.out _ (List.mem_of_getElem? hx)
          obtain rfl := (bytes_eq_iff _ _).1 f1
          obtain rfl := (bytes_eq_iff _ _).1 f2
          obtain rfl : sq3 = sq := f3
          have f6 : lv ≤ lv3 := f4
          have F5 := hid (show ∀ h ∈ H, h.nm = hd3.data.toList → h.lv ≤ lv3 from f5)
          have hsz := World.block_lt_of_cell? _ _ r0
          have hsb := World.block_lt_of_cell? _ _ g0
          have hb := (show Below wr.heap.size wr (wr.alloc (.cells #[.string nm3, .int .i64 lv3, .string tx3, .int .i64 sq3] 28)) from (Below.refl _ _).alloc (Nat.le_refl _) _)
          have HWx := hid (HWr.out.trans (hb.mono HWr.out.size))
          have HVx := hid (HVr.out.trans (hb.mono HVr.out.size))
          have KX := hid (Blk.new wr #[.string nm3, .int .i64 lv3, .string tx3, .int .i64 sq3] 28)
          have G1 := hid ((hb.cell (p := ⟨b, o + k * 6 + 1, none⟩) hsb).trans g1)
          have s0 : (0 : Int) ≤ (k : Int) := by omega
          have s1 : (k : Int) < (n3 : Int) := by omega
          have s2 : ((k : Int)).toNat = k := by simp
          have q3 : ¬ lv3 < lv := by omega
          clear f1 f2 f4 f5 hx hb
          go_wp2_with fail
          generalize hxb : wr.heap.size = xb at *
          generalize wr.alloc (.cells #[.string nm3, .int .i64 lv3, .string tx3, .int .i64 sq3] 28) = wx at *
          clear hxb g0 g1 g2 g3 g4 g5
          clear d0 d1 d2 r0 r1 r2 r3
          obtain ⟨⟨d0, _⟩, ⟨d1, _⟩, ⟨d2, _⟩⟩ := (And.intro ((KB.out.to HWx.out).2 0 _ rfl) (And.intro ((KB.out.to HWx.out).2 1 _ rfl) ((KB.out.to HWx.out).2 2 _ rfl)))
          obtain ⟨⟨r0, _⟩, ⟨r1, _⟩, ⟨r2, _⟩, ⟨r3, _⟩⟩ := (And.intro ((KR.out.to HWx.out).2 0 _ rfl) (And.intro ((KR.out.to HWx.out).2 1 _ rfl) (And.intro ((KR.out.to HWx.out).2 2 _ rfl) ((KR.out.to HWx.out).2 3 _ rfl))))
          obtain ⟨⟨x0, _⟩, ⟨x1, _⟩, ⟨x2, _⟩, ⟨x3, _⟩⟩ := (And.intro (KX.out.2 0 _ rfl) (And.intro (KX.out.2 1 _ rfl) (And.intro (KX.out.2 2 _ rfl) (KX.out.2 3 _ rfl))))
          go_wp2_with fail
          go_loopw [8] (fun iv wq => ∃ i : Nat, iv = .int .i64 i ∧ i ≤ n2 ∧ Hid (Below w2.heap.size w2 wq) ∧ Hid (Below w3.heap.size w3 wq) ∧ Hid (Below wx.heap.size wx wq)) (fun iv _ => n2 - (intOf iv).toNat)
          case atStart => exact ⟨0, rfl, Nat.zero_le _, HWx.out, HVx.out, Below.refl _ _⟩
          case round =>
            obtain ⟨i, rfl, hi, HWq, HVq, HXq⟩ := hrel
            clear d0 d1 d2 r0 r1 r2 r3 x0 x1 x2 x3
            obtain ⟨⟨d0, _⟩, ⟨d1, _⟩, ⟨d2, _⟩⟩ := (And.intro ((KB.out.to HWq.out).2 0 _ rfl) (And.intro ((KB.out.to HWq.out).2 1 _ rfl) ((KB.out.to HWq.out).2 2 _ rfl)))
            obtain ⟨⟨r0, _⟩, ⟨r1, _⟩, ⟨r2, _⟩, ⟨r3, _⟩⟩ := (And.intro ((KR.out.to HWq.out).2 0 _ rfl) (And.intro ((KR.out.to HWq.out).2 1 _ rfl) (And.intro ((KR.out.to HWq.out).2 2 _ rfl) ((KR.out.to HWq.out).2 3 _ rfl))))
            obtain ⟨⟨x0, _⟩, ⟨x1, _⟩, ⟨x2, _⟩, ⟨x3, _⟩⟩ := (And.intro ((KX.out.to HXq.out).2 0 _ rfl) (And.intro ((KX.out.to HXq.out).2 1 _ rfl) (And.intro ((KX.out.to HXq.out).2 2 _ rfl) ((KX.out.to HXq.out).2 3 _ rfl))))
            by_cases hin : i < n2
            · obtain ⟨b4, o4, p4, A4, fn4, k4, rfl, hp4, _, _, y0, y1, y2⟩ := (TT.out _ HWq.out).1.hnd hin
              obtain ⟨hx4, hm4, he4, hl4⟩ := hnd_at (H := H) (k := i) (by rw [← hn2.out]; exact hin)
              have G1q := (HXq.out.cell (p := ⟨b, o + k * 6 + 1, none⟩) (World.block_lt_of_cell? _ _ G1.out)).trans G1.out
              have t0 : (0 : Int) ≤ (i : Int) := by omega
              have t1 : (i : Int) < (n2 : Int) := by omega
              have t2 : ((i : Int)).toNat = i := by simp
              have hlo := F5.out hx4 hm4
              rw [he4, ← hp4, hl4] at hlo
              generalize hlvAt H i = hl at *
              clear hp4 he4 hl4 hm4 y2
              by_cases he : p4.data.toList = hd3.data.toList
              · have e1 := eq_true_of he
                have e2 : ¬ lv3 < hl := by have := hlo he; omega
                clear hlo he
                go_wp2_with fail
                go_quiet (fail)
                go_wp2_with fail
                go_roundw
                case rel => exact ⟨i + 1, by go_num, by omega, below_dr HWq.out _, below_dr HVq.out _, below_dr HXq.out _⟩
                case measure => simp [intOf]; omega
              · have e1 := eq_false_of he
                clear hlo he
                go_wp2_with fail
                go_quiet (fail)
                go_wp2_with fail
                go_roundw
                case rel => exact ⟨i + 1, by go_num, by omega, below_dr HWq.out _, below_dr HVq.out _, below_dr HXq.out _⟩
                case measure => simp [intOf]; omega
            · go_wp2_with fail
              go_roundw
              case rel => exact ⟨k + 1, by go_num, by omega, HWq.out, HVq.out⟩
              case measure => simp [intOf]; omega
        · go_wp2_with fail
          go_ret
          exact ⟨rfl, HB.out.trans (HWr.out.mono HB.out.size)⟩
end Go.Proofs.YtioegkcekbkblaaGreat
