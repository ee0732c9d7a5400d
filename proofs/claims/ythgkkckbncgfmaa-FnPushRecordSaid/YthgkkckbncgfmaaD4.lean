/-
  DRAWS: lists of records that may be invalid. By gen_d4.py.
-/
import Derived.Test.YthgkkckbncgfmaaD3
namespace Go.Proofs.Ythgkkckbncgfmaa
open Go.RowKit Nm
set_option linter.unusedSimpArgs false
set_option linter.unusedVariables false

abbrev fit20 (l : List Rec) : Prop := ∀ x ∈ l, x.nm.length ≤ 20 ∧ x.tx.length ≤ 20
theorem fit_app {l l2 : List Rec} (h : fit20 l) (h2 : fit20 l2) : fit20 (l ++ l2) := by
  intro y hy
  rcases List.mem_append.1 hy with hy | hy
  · exact h y hy
  · exact h2 y hy
theorem fit_set {l : List Rec} {x : Rec} {k : Nat} (h : fit20 l) (hx : x.nm.length ≤ 20 ∧ x.tx.length ≤ 20) : fit20 (l.set k x) := by
  intro y hy
  rcases List.mem_or_eq_of_mem_set hy with hy | rfl
  · exact h y hy
  · exact hx

set_option maxHeartbeats 4000000 in
set_option maxRecDepth 100000 in
theorem someRecords_c (R p : Nat) (w : World) (hr : Rdr w R p) (hp : p ≤ 600000) :
    Calls Try.prog 38 #[.pointer (some ⟨R, 0, none⟩)] w (RecsPost R p 200 25 w) := by
  have hlt := hr.lt
  have C := hid (goodRecords_c R p w hr (by omega))
  clear hr
  generalize hbase : w.heap.size = base at hlt
  replace hbase := hid hbase
  go_enter Try.func38, Try.ntmps38
  go_wp2_with fail
  refine C.out.mono ?_
  rintro e w1 ⟨v, l, p1, rfl, hl12, hfit, ho1, hp1, hr1, hg1⟩
  obtain ⟨A, c, rfl, hnc, hcm⟩ := (Sl.of_own ho1).form
  unfold maxLen at hcm
  have hs1 : base ≤ w1.heap.size := by rw [← hbase.out]; exact hg1.size
  rw [hbase.out] at ho1
  have O1 := hid ho1
  have R1 := hid hr1
  have G1 := hid hg1
  have F1 := hid hfit
  have L1 := hid hl12
  clear ho1 hr1 hg1 hfit C
  rcases Nat.eq_zero_or_pos l.length with hz | hz
  · generalize hln : l.length = ln at *
    subst hz
    replace hln := hid hln
    clear hl12
    have C9 := hid (pick_c R (p1) 40 w1 R1.out (by omega) (by omega))
    have HL9 := hid (show l.length ≤ 12 from (by rw [hln.out]; exact L1.out))
    have HO9 := hid (O1.out)
    have HG9 := hid (G1.out)
    have HF9 := hid (show fit20 l from F1.out)
    have hs9 : base ≤ w1.heap.size := hs1
    have hln9 := hln.out
    replace hln9 := hid hln9
    have hl12 : 0 ≤ 12 := L1.out
    go_wp2_with fail
    refine C9.out.mono ?_
    rintro e w9 ⟨k9, rfl, _, _, hr9, hg9⟩
    have R9 := hid hr9
    have G9 := hid (grown_tr HG9.out hg9)
    have O9 := hid (own_off HO9.out hg9 hlt)
    have hs10 : base ≤ w9.heap.size := Nat.le_trans hs9 hg9.size
    clear hr9 hg9 C9 HG9 HO9
    rcases Nat.eq_zero_or_pos k9 with hk9 | hk9
    · subst hk9
      go_wp2_with (at_builtin; refine appRecordS _ rfl _ _ rfl base _ l l (by rfl) (show World.ownsRow _ base 33 4 _ l.length (l.flatMap rcells) by rw [hln9.out]; exact O9.out) _ _ (by rfl) (show Sl _ _ 4 l.length _ (l.flatMap rcells) by rw [hln9.out]; exact Sl.of_own O9.out) (by rw [hln9.out]; omega) hs10 ?_)
      intro v10 w10 ho10 hb10
      have O10 := hid (show w10.ownsRow base 33 4 v10 (l ++ l).length ((l ++ l).flatMap rcells) by simpa using ho10)
      have R10 := hid (Rdr.low R9.out hb10 hlt)
      have G10 := hid (show w.grownBy w10 (some R) from grown_low G9.out (by rw [hbase.out]; exact hb10))
      have hs11 : base ≤ w10.heap.size := Nat.le_trans hs10 hb10.size
      have C11 := hid (aRecord_c R (p1 + 1) w10 R10.out (by omega))
      have HL10 := hid (show (l ++ l).length ≤ 24 by rw [List.length_append, hln9.out]; omega)
      have HF10 := hid (fit_app HF9.out HF9.out)
      obtain ⟨A10, c10, rfl, _, _⟩ := (Sl.of_own O10.out).form
      generalize l ++ l = l10 at *
      clear ho10 hb10 R10 O9 R9 G9
      go_wp2_with fail
      refine C11.out.mono ?_
      rintro e w11 ⟨nm, tx, lv, sq, p11, ⟨hnm, htx⟩, _, _, rfl, hp11, hr11, hg11⟩
      have R11 := hid hr11
      have G11 := hid (grown_tr G10.out hg11)
      have O11 := hid (own_off O10.out hg11 hlt)
      have hs12 : base ≤ w11.heap.size := Nat.le_trans hs11 hg11.size
      clear hr11 hg11 C11 O10 G10
      have hl10 : l10.length ≤ 1048576 := by have := HL10.out; omega
      go_wp2_with (at_builtin; refine appRecord _ rfl _ _ rfl base _ l10 (by rfl) O11.out nm lv tx sq _ _ _ (by rfl) (by simp) hl10 hs12 ?_)
      intro v12 w12 ho12 hb12
      have O12 := hid (show w12.ownsRow base 33 4 v12 (l10 ++ [(⟨nm.data.toList, lv, tx.data.toList, sq⟩ : Rec)]).length ((l10 ++ [(⟨nm.data.toList, lv, tx.data.toList, sq⟩ : Rec)]).flatMap rcells) by simpa using ho12)
      have R12 := hid (Rdr.low R11.out hb12 hlt)
      have G12 := hid (show w.grownBy w12 (some R) from grown_low G11.out (by rw [hbase.out]; exact hb12))
      clear ho12 hb12
      go_wp2_with fail
      go_ret
      refine ⟨_, l10 ++ [(⟨nm.data.toList, lv, tx.data.toList, sq⟩ : Rec)], p11, rfl, ?_, fit_add HF10.out (by rw [← Lib.size_eq, ← Lib.size_eq]; exact ⟨hnm, htx⟩), (by rw [hbase.out]; exact O12.out), by omega, R12.out, G12.out⟩
      have := HL10.out
      simp; omega
    · have q9 : ((k9 : Int) == 0) = false := by simp; omega
      go_wp2_with fail
      go_ret
      exact ⟨_, l, _, rfl, by rw [hln9.out]; omega, HF9.out, (by rw [hbase.out, hln9.out]; exact O9.out), by omega, R9.out, G9.out⟩
  · generalize hln : l.length = ln at *
    replace hln := hid hln
    have hzi : decide ((0 : Int) < (ln : Int)) = true := by simp; omega
    have C2 := hid (pick_c R p1 16 w1 R1.out (by omega) (by omega))
    go_wp2_with fail
    refine C2.out.mono ?_
    rintro e w2 ⟨k, rfl, _, _, hr2, hg2⟩
    have R2 := hid hr2
    have G2 := hid (grown_tr G1.out hg2)
    have O2 := hid (own_off O1.out hg2 hlt)
    have hs2 : base ≤ w2.heap.size := Nat.le_trans hs1 hg2.size
    clear hr2 hg2 C2 R1 G1 O1
    rcases Nat.eq_zero_or_pos k with hk | hk
    · subst hk
      have C3 := hid (pick_c R (p1 + 1) (ln : Int) w2 R2.out (by omega) (by omega))
      go_wp2_with fail
      refine C3.out.mono ?_
      rintro e w3 ⟨i, rfl, hi1, _, hr3, hg3⟩
      have hi : i < ln := by have := hi1 (by omega); omega
      have G3 := hid (grown_tr G2.out hg3)
      have O3 := hid (own_off O2.out hg3 hlt)
      have hs3 : base ≤ w3.heap.size := Nat.le_trans hs2 hg3.size
      have C4 := hid (someRecord_c R (p1 + 1 + 1) w3 hr3 (by omega))
      clear hr3 hg3 C3 R2 G2 O2 hi1
      go_wp2_with fail
      refine C4.out.mono ?_
      rintro e w4 ⟨nm, tx, lv, sq, p4, ⟨hnm, htx⟩, _, _, rfl, hp4, hr4, hg4⟩
      have G4 := hid (grown_tr G3.out hg4)
      have O4 := hid (own_off O3.out hg4 hlt)
      have R4 := hid hr4
      have hs4 : base ≤ w4.heap.size := Nat.le_trans hs3 hg4.size
      clear hr4 hg4 C4 G3 O3
      obtain ⟨g, rfl, hglt⟩ := own_some O4.out (by omega)
      have hgb : base ≤ g := (O4.out.lt g rfl).1
      have hi4 : i * 4 + 3 < ln * 4 := by omega
      obtain ⟨_, c0⟩ := own_cell O4.out (j := i * 4) (by omega)
      obtain ⟨_, c1⟩ := own_cell O4.out (j := i * 4 + 1) (by omega)
      obtain ⟨_, c2⟩ := own_cell O4.out (j := i * 4 + 2) (by omega)
      obtain ⟨_, c3⟩ := own_cell O4.out (j := i * 4 + 3) (by omega)
      have f0 := O4.out.frozenAt (i * 4)
      have f1 := O4.out.frozenAt (i * 4 + 1)
      have f2 := O4.out.frozenAt (i * 4 + 2)
      have f3 := O4.out.frozenAt (i * 4 + 3)
      obtain ⟨x, hx⟩ : ∃ x, l[i]? = some x := ⟨_, List.getElem?_eq_getElem (by rw [hln.out]; exact hi)⟩
      have e4 : (((((l.flatMap rcells).set (i * 4) (.string nm)).set (i * 4 + 1) (.int .i64 lv)).set (i * 4 + 2) (.string tx)).set (i * 4 + 3) (.int .i64 sq)) = (l.set i ⟨nm.data.toList, lv, tx.data.toList, sq⟩).flatMap rcells := by
        have e0 := flat_set rcells 4 rcells_len l i 0 x ⟨nm.data.toList, x.lv, x.tx, x.sq⟩ (.string nm) hx (by omega) (by simp [rcells, txt_data])
        have e1 := flat_set rcells 4 rcells_len (l.set i ⟨nm.data.toList, x.lv, x.tx, x.sq⟩) i 1 ⟨nm.data.toList, x.lv, x.tx, x.sq⟩ ⟨nm.data.toList, lv, x.tx, x.sq⟩ (.int .i64 lv) (set_at hx _) (by omega) (by simp [rcells])
        have e2 := flat_set rcells 4 rcells_len (l.set i ⟨nm.data.toList, lv, x.tx, x.sq⟩) i 2 ⟨nm.data.toList, lv, x.tx, x.sq⟩ ⟨nm.data.toList, lv, tx.data.toList, x.sq⟩ (.string tx) (set_at hx _) (by omega) (by simp [rcells, txt_data])
        have e3 := flat_set rcells 4 rcells_len (l.set i ⟨nm.data.toList, lv, tx.data.toList, x.sq⟩) i 3 ⟨nm.data.toList, lv, tx.data.toList, x.sq⟩ ⟨nm.data.toList, lv, tx.data.toList, sq⟩ (.int .i64 sq) (set_at hx _) (by omega) (by simp [rcells])
        rw [List.set_set] at e1 e2 e3
        rw [Nat.add_zero] at e0
        rw [e0, e1, e2, e3]
      have HX := hid (And.intro hx e4)
      clear hx e4
      go_wp2_with fail
      have O5 := hid (own_put4 O4.out (i * 4) (.string nm) (.int .i64 lv) (.string tx) (.int .i64 sq))
      rw [HX.out.2] at O5
      have hgR : R < g := Nat.lt_of_lt_of_le hlt hgb
      have hgw : w.heap.size ≤ g := by rw [hbase.out]; exact hgb
      have R5 := hid ((((R4.out.set (j := i * 4) (u := .string nm) hgR).set (j := i * 4 + 1) (u := .int .i64 lv) hgR).set (j := i * 4 + 2) (u := .string tx) hgR).set (j := i * 4 + 3) (u := .int .i64 sq) hgR)
      have G5 := hid (grown_at (j := i * 4 + 3) (u := .int .i64 sq) (grown_at (j := i * 4 + 2) (u := .string tx) (grown_at (j := i * 4 + 1) (u := .int .i64 lv) (grown_at (j := i * 4) (u := .string nm) G4.out hgw) hgw) hgw) hgw)
      have hs5 : base ≤ ((((w4.setCell ⟨g, i * 4, none⟩ (.string nm)).setCell ⟨g, i * 4 + 1, none⟩ (.int .i64 lv)).setCell ⟨g, i * 4 + 2, none⟩ (.string tx)).setCell ⟨g, i * 4 + 3, none⟩ (.int .i64 sq)).heap.size := by simpa using hs4
      clear c0 c1 c2 c3 f0 f1 f2 f3 O4 R4 G4
      generalize (((w4.setCell ⟨g, i * 4, none⟩ (.string nm)).setCell ⟨g, i * 4 + 1, none⟩ (.int .i64 lv)).setCell ⟨g, i * 4 + 2, none⟩ (.string tx)).setCell ⟨g, i * 4 + 3, none⟩ (.int .i64 sq) = w5 at *
      have F5 := hid (fit_set (k := i) F1.out (x := ⟨nm.data.toList, lv, tx.data.toList, sq⟩) (by rw [← Lib.size_eq, ← Lib.size_eq]; exact ⟨hnm, htx⟩))
      have hln5 : (l.set i ⟨nm.data.toList, lv, tx.data.toList, sq⟩).length = ln := by rw [List.length_set]; exact hln.out
      generalize l.set i ⟨nm.data.toList, lv, tx.data.toList, sq⟩ = l5 at *
      replace hln5 := hid hln5
      have C9 := hid (pick_c R (p4) 40 w5 R5.out (by omega) (by omega))
      have HL9 := hid (show l5.length ≤ 12 from (by rw [hln5.out]; exact L1.out))
      have HO9 := hid (O5.out)
      have HG9 := hid (G5.out)
      have HF9 := hid (show fit20 l5 from F5.out)
      have hs9 : base ≤ w5.heap.size := hs5
      have hln9 := hln5.out
      replace hln9 := hid hln9
      have hl12 : ln ≤ 12 := L1.out
      refine C9.out.mono ?_
      rintro e w9 ⟨k9, rfl, _, _, hr9, hg9⟩
      have R9 := hid hr9
      have G9 := hid (grown_tr HG9.out hg9)
      have O9 := hid (own_off HO9.out hg9 hlt)
      have hs10 : base ≤ w9.heap.size := Nat.le_trans hs9 hg9.size
      clear hr9 hg9 C9 HG9 HO9
      rcases Nat.eq_zero_or_pos k9 with hk9 | hk9
      · subst hk9
        go_wp2_with (at_builtin; refine appRecordS _ rfl _ _ rfl base _ l5 l5 (by rfl) (show World.ownsRow _ base 33 4 _ l5.length (l5.flatMap rcells) by rw [hln9.out]; exact O9.out) _ _ (by rfl) (show Sl _ _ 4 l5.length _ (l5.flatMap rcells) by rw [hln9.out]; exact Sl.of_own O9.out) (by rw [hln9.out]; omega) hs10 ?_)
        intro v10 w10 ho10 hb10
        have O10 := hid (show w10.ownsRow base 33 4 v10 (l5 ++ l5).length ((l5 ++ l5).flatMap rcells) by simpa using ho10)
        have R10 := hid (Rdr.low R9.out hb10 hlt)
        have G10 := hid (show w.grownBy w10 (some R) from grown_low G9.out (by rw [hbase.out]; exact hb10))
        have hs11 : base ≤ w10.heap.size := Nat.le_trans hs10 hb10.size
        have C11 := hid (aRecord_c R (p4 + 1) w10 R10.out (by omega))
        have HL10 := hid (show (l5 ++ l5).length ≤ 24 by rw [List.length_append, hln9.out]; omega)
        have HF10 := hid (fit_app HF9.out HF9.out)
        obtain ⟨A10, c10, rfl, _, _⟩ := (Sl.of_own O10.out).form
        generalize l5 ++ l5 = l10 at *
        clear ho10 hb10 R10 O9 R9 G9
        go_wp2_with fail
        refine C11.out.mono ?_
        rintro e w11 ⟨nm, tx, lv, sq, p11, ⟨hnm, htx⟩, _, _, rfl, hp11, hr11, hg11⟩
        have R11 := hid hr11
        have G11 := hid (grown_tr G10.out hg11)
        have O11 := hid (own_off O10.out hg11 hlt)
        have hs12 : base ≤ w11.heap.size := Nat.le_trans hs11 hg11.size
        clear hr11 hg11 C11 O10 G10
        have hl10 : l10.length ≤ 1048576 := by have := HL10.out; omega
        go_wp2_with (at_builtin; refine appRecord _ rfl _ _ rfl base _ l10 (by rfl) O11.out nm lv tx sq _ _ _ (by rfl) (by simp) hl10 hs12 ?_)
        intro v12 w12 ho12 hb12
        have O12 := hid (show w12.ownsRow base 33 4 v12 (l10 ++ [(⟨nm.data.toList, lv, tx.data.toList, sq⟩ : Rec)]).length ((l10 ++ [(⟨nm.data.toList, lv, tx.data.toList, sq⟩ : Rec)]).flatMap rcells) by simpa using ho12)
        have R12 := hid (Rdr.low R11.out hb12 hlt)
        have G12 := hid (show w.grownBy w12 (some R) from grown_low G11.out (by rw [hbase.out]; exact hb12))
        clear ho12 hb12
        go_wp2_with fail
        go_ret
        refine ⟨_, l10 ++ [(⟨nm.data.toList, lv, tx.data.toList, sq⟩ : Rec)], p11, rfl, ?_, fit_add HF10.out (by rw [← Lib.size_eq, ← Lib.size_eq]; exact ⟨hnm, htx⟩), (by rw [hbase.out]; exact O12.out), by omega, R12.out, G12.out⟩
        have := HL10.out
        simp; omega
      · have q9 : ((k9 : Int) == 0) = false := by simp; omega
        go_wp2_with fail
        go_ret
        exact ⟨_, l5, _, rfl, by rw [hln9.out]; omega, HF9.out, (by rw [hbase.out, hln9.out]; exact O9.out), by omega, R9.out, G9.out⟩

    · have q0 : ((k : Int) == 0) = false := by simp; omega
      have C9 := hid (pick_c R (p1 + 1) 40 w2 R2.out (by omega) (by omega))
      have HL9 := hid (show l.length ≤ 12 from (by rw [hln.out]; exact L1.out))
      have HO9 := hid (O2.out)
      have HG9 := hid (G2.out)
      have HF9 := hid (show fit20 l from F1.out)
      have hs9 : base ≤ w2.heap.size := hs2
      have hln9 := hln.out
      replace hln9 := hid hln9
      have hl12 : ln ≤ 12 := L1.out
      go_wp2_with fail
      refine C9.out.mono ?_
      rintro e w9 ⟨k9, rfl, _, _, hr9, hg9⟩
      have R9 := hid hr9
      have G9 := hid (grown_tr HG9.out hg9)
      have O9 := hid (own_off HO9.out hg9 hlt)
      have hs10 : base ≤ w9.heap.size := Nat.le_trans hs9 hg9.size
      clear hr9 hg9 C9 HG9 HO9
      rcases Nat.eq_zero_or_pos k9 with hk9 | hk9
      · subst hk9
        go_wp2_with (at_builtin; refine appRecordS _ rfl _ _ rfl base _ l l (by rfl) (show World.ownsRow _ base 33 4 _ l.length (l.flatMap rcells) by rw [hln9.out]; exact O9.out) _ _ (by rfl) (show Sl _ _ 4 l.length _ (l.flatMap rcells) by rw [hln9.out]; exact Sl.of_own O9.out) (by rw [hln9.out]; omega) hs10 ?_)
        intro v10 w10 ho10 hb10
        have O10 := hid (show w10.ownsRow base 33 4 v10 (l ++ l).length ((l ++ l).flatMap rcells) by simpa using ho10)
        have R10 := hid (Rdr.low R9.out hb10 hlt)
        have G10 := hid (show w.grownBy w10 (some R) from grown_low G9.out (by rw [hbase.out]; exact hb10))
        have hs11 : base ≤ w10.heap.size := Nat.le_trans hs10 hb10.size
        have C11 := hid (aRecord_c R (p1 + 1 + 1) w10 R10.out (by omega))
        have HL10 := hid (show (l ++ l).length ≤ 24 by rw [List.length_append, hln9.out]; omega)
        have HF10 := hid (fit_app HF9.out HF9.out)
        obtain ⟨A10, c10, rfl, _, _⟩ := (Sl.of_own O10.out).form
        generalize l ++ l = l10 at *
        clear ho10 hb10 R10 O9 R9 G9
        go_wp2_with fail
        refine C11.out.mono ?_
        rintro e w11 ⟨nm, tx, lv, sq, p11, ⟨hnm, htx⟩, _, _, rfl, hp11, hr11, hg11⟩
        have R11 := hid hr11
        have G11 := hid (grown_tr G10.out hg11)
        have O11 := hid (own_off O10.out hg11 hlt)
        have hs12 : base ≤ w11.heap.size := Nat.le_trans hs11 hg11.size
        clear hr11 hg11 C11 O10 G10
        have hl10 : l10.length ≤ 1048576 := by have := HL10.out; omega
        go_wp2_with (at_builtin; refine appRecord _ rfl _ _ rfl base _ l10 (by rfl) O11.out nm lv tx sq _ _ _ (by rfl) (by simp) hl10 hs12 ?_)
        intro v12 w12 ho12 hb12
        have O12 := hid (show w12.ownsRow base 33 4 v12 (l10 ++ [(⟨nm.data.toList, lv, tx.data.toList, sq⟩ : Rec)]).length ((l10 ++ [(⟨nm.data.toList, lv, tx.data.toList, sq⟩ : Rec)]).flatMap rcells) by simpa using ho12)
        have R12 := hid (Rdr.low R11.out hb12 hlt)
        have G12 := hid (show w.grownBy w12 (some R) from grown_low G11.out (by rw [hbase.out]; exact hb12))
        clear ho12 hb12
        go_wp2_with fail
        go_ret
        refine ⟨_, l10 ++ [(⟨nm.data.toList, lv, tx.data.toList, sq⟩ : Rec)], p11, rfl, ?_, fit_add HF10.out (by rw [← Lib.size_eq, ← Lib.size_eq]; exact ⟨hnm, htx⟩), (by rw [hbase.out]; exact O12.out), by omega, R12.out, G12.out⟩
        have := HL10.out
        simp; omega
      · have q9 : ((k9 : Int) == 0) = false := by simp; omega
        go_wp2_with fail
        go_ret
        exact ⟨_, l, _, rfl, by rw [hln9.out]; omega, HF9.out, (by rw [hbase.out, hln9.out]; exact O9.out), by omega, R9.out, G9.out⟩
end Go.Proofs.Ythgkkckbncgfmaa
