/-
  FILES: RollFiles of the program.
-/
import Derived.Test.YtoiagfdhanhnkaaF9
import Derived.Test.YtoiagfdhanhnkaaF7
namespace Go.Proofs.Ytoiagfdhanhnkaa
open Go.RowKit Nm
set_option linter.unusedSimpArgs false
set_option linter.unusedVariables false

theorem Rows.nilrow {w : World} {lo : Nat} {r : Row} {rs : List Row} (h : Rows w lo (r :: rs)) (T : TypeId) : Rows w lo (r :: ⟨T, 1, 0, .slice none 0 0, []⟩ :: rs) := (h.cons_nil (T := T) (d := 1)).perm (List.Perm.swap _ _ _)

set_option maxHeartbeats 4000000 in
set_option maxRecDepth 100000 in
theorem implRollFiles_c {v : Value} {B : Nat} {d : Fil} {w : World} (h : FilIn w B v d) (hB : B ≤ w.heap.size) :
    Calls Try.prog 15 #[v] w (FilPost w (rollX d)) := by
  obtain ⟨A, n, c, hv⟩ := h.form
  have C1 := hid (fun (w1 : World) (hb : Below w.heap.size w w1) => implValidFiles_c (h.below hb hB) (Nat.le_trans hB hb.size))
  obtain ⟨u, hu, hin⟩ := h
  obtain ⟨mo, ke, L⟩ := d
  rw [hv] at hu
  have hu2 : u = .slice A n c := by simp at hu; exact hu.symm
  subst hu2
  clear hu
  subst hv
  have HX := hid (show rollX ⟨mo, ke, L⟩ = if filOk ⟨mo, ke, L⟩ then (if (headL L).length = 0 then ⟨mo, ke, L⟩ else rollF ⟨mo, ke, L⟩) else ⟨0, 0, []⟩ from rfl)
  have HR2 := hid (two_boxes w mo ke A n c)
  have HB2 := hid (two_below w mo ke A n c)
  have hbr : w.heap.size ≤ w.heap.size + 1 := by omega
  show Calls Try.prog 15 #[.agg #[.int .i64 mo, .int .i64 ke, .slice A n c]] w _
  generalize rollX ⟨mo, ke, L⟩ = X at HX ⊢
  cases hz : filOk ⟨mo, ke, L⟩ with
  | false =>
    rw [hz] at C1 HX
    obtain rfl : X = ⟨0, 0, []⟩ := HX.out
    clear HX hin hz
    go_enter Try.func15, Try.ntmps15
    go_wp2_with fail
    refine (C1.out _ HB2.out).mono ?_
    rintro e w1 ⟨rfl, hb⟩
    replace HR2 := hid (HR2.out.below hb)
    replace HB2 := hid (HB2.out.trans (hb.mono HB2.out.size))
    generalize hbr2 : w.heap.size + 1 = br at *
    obtain ⟨r0, x0, _⟩ := Rows.bcell2 (pre := []) (q := 0) HR2.out rfl
    obtain ⟨r1, x1, _⟩ := Rows.bcell2 (pre := []) (q := 1) HR2.out rfl
    obtain ⟨r2, x2, _⟩ := Rows.bcell2 (pre := []) (q := 2) HR2.out rfl
    clear hb C1 hbr2
    go_wp2_with fail
    have Y2 := Rows.boxset (pre := []) (j := 0) (u := .int .i64 0) HR2.out
    have Y3 := Rows.boxset (pre := []) (j := 1) (u := .int .i64 0) Y2
    have Y4 := Rows.boxset (pre := []) (j := 2) (u := .slice none 0 0) Y3
    have f0 := (Rows.bcell2 (pre := []) (q := 0) Y4 rfl).1
    have f1 := (Rows.bcell2 (pre := []) (q := 1) Y4 rfl).1
    have f2 := (Rows.bcell2 (pre := []) (q := 2) Y4 rfl).1
    refine bodyPost_ret (v := .agg #[.int .i64 0, .int .i64 0, .slice none 0 0]) (by simp [results, Try.results15, go_sem, f0, f1, f2]) rfl ?_
    obtain ⟨rs, h1, h2⟩ := zero_fil
    exact ⟨_, rs, rfl, h1, h2, ((HB2.out.setCell (p := ⟨br, 0, none⟩) hbr (.int .i64 0)).setCell (p := ⟨br, 1, none⟩) hbr (.int .i64 0)).setCell (p := ⟨br, 2, none⟩) hbr (.slice none 0 0)⟩
  | true =>
    rw [hz] at C1 HX
    have hpt := fil_parts hz
    have hsm := fil_small hz
    have hln : L.length = n := NestIn.count hin.1
    have hl1 : 1 ≤ L.length := hpt.2.2.2.2.2.1
    have hl4 : L.length ≤ 4 := hsm.1
    have hk1 : 1 ≤ ke := hpt.2.2.2.1
    have hk3 : ke ≤ 3 := hpt.2.2.2.2.1
    have hl0 := head_at hl1
    have C3 := hid (fun (w1 : World) (hb : Below w.heap.size w w1) => implCopyLists_c (hin.below hb hB) (Nat.le_trans hB hb.size) (by omega))
    have C4 := hid (fun (q : Nat) (hq : q ≤ n) (w1 : World) (hb : Below w.heap.size w w1) => implCopyLists_c ((hin.below hb hB).cut hq) (Nat.le_trans hB hb.size) (by rw [List.length_take]; omega))
    have HI := hid hin
    obtain ⟨_, _, e9, hnc, hcm⟩ := hin.1.form
    have hnc2 : n ≤ c := by injection e9 with a1 a2 a3; omega
    have hcm2 : c ≤ maxLen := by injection e9 with a1 a2 a3; omega
    unfold maxLen at hcm2
    rw [hln] at hl1 hl4
    have hlast := hid (And.intro hl0 hln)
    clear hpt hsm hin e9 hnc hcm hl0 hln hz
    go_enter Try.func15, Try.ntmps15
    go_wp2_with fail
    refine (C1.out _ HB2.out).mono ?_
    rintro e w1 ⟨rfl, hb⟩
    replace HR2 := hid (HR2.out.below hb)
    replace HB2 := hid (HB2.out.trans (hb.mono HB2.out.size))
    obtain ⟨b, o, u, l, hA, hbB, hx, c0, hin⟩ := (HI.out.below HB2.out hB).elem (k := 0) (by omega)
    subst hA
    obtain ⟨A', c', rfl, hnc', hcm'⟩ := hin.1.form
    have hlh : l = headL L := by rw [hlast.out.1] at hx; exact (Option.some.inj hx).symm
    rw [← hlh] at HX
    generalize hln : l.length = ln at *
    replace hln := hid hln
    rw [Nat.add_zero] at c0
    unfold maxLen at hcm'
    have hlt2 : ln ≤ 1048576 := by have := hin.2.1; have h8 := hln.out; unfold maxTxt at this; omega
    clear hin hx hb C1
    generalize hbr2 : w.heap.size + 1 = br at *
    have ne2 : w.heap.size ≠ br := by omega
    have ne3 : br ≠ w.heap.size := by omega
    obtain ⟨r0, x0, _⟩ := Rows.bcell2 (pre := []) (q := 0) HR2.out rfl
    obtain ⟨r1, x1, _⟩ := Rows.bcell2 (pre := []) (q := 1) HR2.out rfl
    obtain ⟨r2, x2, _⟩ := Rows.bcell2 (pre := []) (q := 2) HR2.out rfl
    have p0 := (Rows.bc HR2.out.right 0 rfl).1
    have p1 := (Rows.bc HR2.out.right 1 rfl).1
    have p2 := (Rows.bc HR2.out.right 2 rfl).1
    clear hbr2
    rcases Nat.eq_zero_or_pos ln with h0 | h0
    · subst h0
      have hXE : X = ⟨mo, ke, L⟩ := HX.out
      subst hXE
      clear HX C4
      go_wp2_with fail
      refine (C3.out _ HB2.out).mono ?_
      rintro e w2 ⟨u2, rs2, rfl, hs2, hr2, hb2⟩
      obtain ⟨A2, n2, c2, rfl⟩ := hs2.form hr2
      have HR3 := hid ((HR2.out.newer hb2 hr2 HB2.out.size).perm List.perm_append_comm)
      have HB3 := hid (HB2.out.trans (hb2.mono HB2.out.size))
      have HS2 := hid hs2
      clear p0 p1 p2 r0 r1 r2 x0 x1 x2 c0 hs2 hr2 hb2 HR2 HB2
      obtain ⟨p0, _, _⟩ := Rows.bcell2 (pre := [_]) (q := 0) HR3.out rfl
      obtain ⟨p1, _, _⟩ := Rows.bcell2 (pre := [_]) (q := 1) HR3.out rfl
      obtain ⟨p2, q2, _⟩ := Rows.bcell2 (pre := [_]) (q := 2) HR3.out rfl
      obtain ⟨r0, x0, _⟩ := Rows.bcell2 (pre := []) (q := 0) HR3.out rfl
      obtain ⟨r1, x1, _⟩ := Rows.bcell2 (pre := []) (q := 1) HR3.out rfl
      obtain ⟨r2, x2, _⟩ := Rows.bcell2 (pre := []) (q := 2) HR3.out rfl
      go_wp2_with fail
      have Y1 := Rows.boxset (pre := [_]) (j := 2) (u := .slice A2 n2 c2) HR3.out
      have Y2 := Rows.boxset (pre := []) (j := 0) (u := .int .i64 mo) Y1
      have Y3 := Rows.boxset (pre := []) (j := 1) (u := .int .i64 ke) Y2
      have Y4 := Rows.boxset (pre := []) (j := 2) (u := .slice A2 n2 c2) Y3
      have f0 := (Rows.bcell2 (pre := []) (q := 0) Y4 rfl).1
      have f1 := (Rows.bcell2 (pre := []) (q := 1) Y4 rfl).1
      have f2 := (Rows.bcell2 (pre := []) (q := 2) Y4 rfl).1
      refine bodyPost_ret (v := .agg #[.int .i64 mo, .int .i64 ke, .slice A2 n2 c2]) (by simp [results, Try.results15, go_sem, f0, f1, f2]) rfl ?_
      exact ⟨_, rs2, rfl, ⟨_, rfl, HS2.out⟩, Y4.right.tail, (((HB3.out.setCell (p := ⟨w.heap.size, 2, none⟩) (Nat.le_refl _) _).setCell (p := ⟨br, 0, none⟩) hbr (.int .i64 mo)).setCell (p := ⟨br, 1, none⟩) hbr (.int .i64 ke)).setCell (p := ⟨br, 2, none⟩) hbr (.slice A2 n2 c2)⟩
    · have hXE : X = rollF ⟨mo, ke, L⟩ := by have h9 := HX.out; simp only [if_true] at h9; rw [if_neg (by omega)] at h9; exact h9
      subst hXE
      have hne : ((ln : Int) == 0) = false := by simp; omega
      obtain ⟨K, rfl⟩ : ∃ K : Nat, ke = (K : Int) := ⟨ke.toNat, by omega⟩
      have hmin : ∃ q : Nat, min (n : Int) (K : Int) = (q : Int) ∧ q ≤ n ∧ ((q = n ∧ n ≤ K) ∨ (q = K ∧ K < n)) ∧ q ≤ K := ⟨min n K, by omega, by omega, by omega, by omega⟩
      obtain ⟨q, hq, hqn, hqe, hqk⟩ := hmin
      have s1 : (0 : Int) ≤ (q : Int) := by omega
      have s2 : ((q : Int)).toNat = q := by omega
      have s3 : (q : Int) ≤ (c : Int) := by omega
      have s4 : (q : Int) ≤ (n : Int) := by omega
      have s5 : q ≤ c := by omega
      replace C4 := hid (C4.out q hqn)
      have HQ := hid hqe
      have hlast2 := hid (show (L.take q).length = q by rw [List.length_take, hlast.out.2]; omega)
      have hXL := hid (show ([] : TxtL) :: L.take q = (([] : TxtL) :: L).take (K + 1) by
        rw [List.take_succ_cons]
        congr 1
        rcases hqe with ⟨e1, e2⟩ | ⟨e1, e2⟩
        · rw [List.take_of_length_le (by rw [hlast.out.2]; omega), List.take_of_length_le (by rw [hlast.out.2]; omega)]
        · rw [e1])
      have hq3 : q ≤ 3 := by omega
      have HR3 := hid ((show Rows (w1.alloc (.cells #[.slice none 0 0] 35)) w.heap.size (nestRows 35 (.slice (some ⟨w1.heap.size, 0, none⟩) 1 1) [(.slice none 0 0, [⟨9, 1, 0, .slice none 0 0, []⟩])] ++ ([bxRow 26 3 br [.int .i64 0, .int .i64 0, .slice none 0 0]] ++ [bxRow 26 3 w.heap.size [.int .i64 mo, .int .i64 K, .slice (some ⟨b, o, none⟩) n c]])) from (HR2.out.lit HB2.out.size #[.slice none 0 0] 35 1 rfl (by omega)).nilrow 9))
      have HB3 := hid (HB2.out.alloc HB2.out.size (.cells #[.slice none 0 0] 35))
      have hrf := hid (show (rollF ⟨mo, (K : Int), L⟩) = ⟨mo, (K : Int), ([] : TxtL) :: L.take q⟩ by rw [hXL.out]; rfl)
      generalize L.take q = M at *
      clear HX C3 h0 hqe hq hXL HI hlast hln hlh
      rcases HQ.out with ⟨e1, e2⟩ | ⟨e1, e2⟩
      · subst e1
        go_wp2_with fail
        refine (C4.out _ HB3.out).mono ?_
        rintro e w2 ⟨u2, rs2, rfl, hs2, hr2, hb2⟩
        obtain ⟨A2, c2, rfl, _, _⟩ := (NestR.own_ hs2 hr2).form
        obtain ⟨es2, rfl, hne2⟩ := hs2.ne
        have hl2 := hne2.1.trans hlast2.out
        rw [hlast2.out] at hr2
        rw [hlast2.out]
        have HR4 := (HR3.out.newer hb2 hr2 HB3.out.size).perm (List.perm_append_comm_assoc _ _ _)
        have HB4 := hid (HB3.out.trans (hb2.mono HB3.out.size))
        obtain ⟨A3, c3, w3, hrun, hb3, hR3, hs3⟩ := nest_appN HR4 rfl hl2 HB4.out.size (by omega) (heads_one hne2 HR4.right.left.tail)
        have HE := hid (NE.app (R := StrsR) (es := [(.slice none 0 0, [⟨9, 1, 0, .slice none 0 0, []⟩])]) (L := [[]]) (NE.nil.snoc (l := []) rfl) hne2)
        have HR5 := hid (hR3.perm (List.perm_append_comm.trans (by rw [List.append_assoc])))
        have HB5 := hid (HB4.out.trans (hb3.mono (Nat.le_refl _)))
        have HRun := hid hrun
        clear hs2 hr2 hb2 hne2 hl2 hrun hb3 hR3 hs3 HR4 HB4 HR3 HB3 C4 p0 p1 p2 r0 r1 r2 x0 x1 x2
        obtain ⟨p0, _, _⟩ := Rows.bcell2 (pre := [_]) (q := 0) HR5.out rfl
        obtain ⟨p1, _, _⟩ := Rows.bcell2 (pre := [_]) (q := 1) HR5.out rfl
        obtain ⟨p2, q2, _⟩ := Rows.bcell2 (pre := [_]) (q := 2) HR5.out rfl
        obtain ⟨r0, x0, _⟩ := Rows.bcell2 (pre := []) (q := 0) HR5.out rfl
        obtain ⟨r1, x1, _⟩ := Rows.bcell2 (pre := []) (q := 1) HR5.out rfl
        obtain ⟨r2, x2, _⟩ := Rows.bcell2 (pre := []) (q := 2) HR5.out rfl
        go_wp2_with (at_builtin; refine wpList_runB rfl rfl (by rfl) (by rfl) HRun.out ?_)
        have Y1 := Rows.boxset (pre := [_]) (j := 2) (u := .slice A3 (1 + q) c3) HR5.out
        have Y2 := Rows.boxset (pre := []) (j := 0) (u := .int .i64 mo) Y1
        have Y3 := Rows.boxset (pre := []) (j := 1) (u := .int .i64 K) Y2
        have Y4 := Rows.boxset (pre := []) (j := 2) (u := .slice A3 (1 + q) c3) Y3
        have f0 := (Rows.bcell2 (pre := []) (q := 0) Y4 rfl).1
        have f1 := (Rows.bcell2 (pre := []) (q := 1) Y4 rfl).1
        have f2 := (Rows.bcell2 (pre := []) (q := 2) Y4 rfl).1
        refine bodyPost_ret (v := .agg #[.int .i64 mo, .int .i64 K, .slice A3 (1 + q) c3]) (by simp [results, Try.results15, go_sem, f0, f1, f2]) rfl ?_
        rw [hrf.out]
        exact ⟨_, _, rfl, ⟨_, rfl, HE.out.toR⟩, Y4.right.tail, (((HB5.out.setCell (p := ⟨w.heap.size, 2, none⟩) (Nat.le_refl _) _).setCell (p := ⟨br, 0, none⟩) hbr _).setCell (p := ⟨br, 1, none⟩) hbr _).setCell (p := ⟨br, 2, none⟩) hbr _⟩
      · subst e1
        go_wp2_with fail
        refine (C4.out _ HB3.out).mono ?_
        rintro e w2 ⟨u2, rs2, rfl, hs2, hr2, hb2⟩
        obtain ⟨A2, c2, rfl, _, _⟩ := (NestR.own_ hs2 hr2).form
        obtain ⟨es2, rfl, hne2⟩ := hs2.ne
        have hl2 := hne2.1.trans hlast2.out
        rw [hlast2.out] at hr2
        rw [hlast2.out]
        have HR4 := (HR3.out.newer hb2 hr2 HB3.out.size).perm (List.perm_append_comm_assoc _ _ _)
        have HB4 := hid (HB3.out.trans (hb2.mono HB3.out.size))
        obtain ⟨A3, c3, w3, hrun, hb3, hR3, hs3⟩ := nest_appN HR4 rfl hl2 HB4.out.size (by omega) (heads_one hne2 HR4.right.left.tail)
        have HE := hid (NE.app (R := StrsR) (es := [(.slice none 0 0, [⟨9, 1, 0, .slice none 0 0, []⟩])]) (L := [[]]) (NE.nil.snoc (l := []) rfl) hne2)
        have HR5 := hid (hR3.perm (List.perm_append_comm.trans (by rw [List.append_assoc])))
        have HB5 := hid (HB4.out.trans (hb3.mono (Nat.le_refl _)))
        have HRun := hid hrun
        clear hs2 hr2 hb2 hne2 hl2 hrun hb3 hR3 hs3 HR4 HB4 HR3 HB3 C4 p0 p1 p2 r0 r1 r2 x0 x1 x2
        obtain ⟨p0, _, _⟩ := Rows.bcell2 (pre := [_]) (q := 0) HR5.out rfl
        obtain ⟨p1, _, _⟩ := Rows.bcell2 (pre := [_]) (q := 1) HR5.out rfl
        obtain ⟨p2, q2, _⟩ := Rows.bcell2 (pre := [_]) (q := 2) HR5.out rfl
        obtain ⟨r0, x0, _⟩ := Rows.bcell2 (pre := []) (q := 0) HR5.out rfl
        obtain ⟨r1, x1, _⟩ := Rows.bcell2 (pre := []) (q := 1) HR5.out rfl
        obtain ⟨r2, x2, _⟩ := Rows.bcell2 (pre := []) (q := 2) HR5.out rfl
        go_wp2_with (at_builtin; refine wpList_runB rfl rfl (by rfl) (by rfl) HRun.out ?_)
        have Y1 := Rows.boxset (pre := [_]) (j := 2) (u := .slice A3 (1 + q) c3) HR5.out
        have Y2 := Rows.boxset (pre := []) (j := 0) (u := .int .i64 mo) Y1
        have Y3 := Rows.boxset (pre := []) (j := 1) (u := .int .i64 q) Y2
        have Y4 := Rows.boxset (pre := []) (j := 2) (u := .slice A3 (1 + q) c3) Y3
        have f0 := (Rows.bcell2 (pre := []) (q := 0) Y4 rfl).1
        have f1 := (Rows.bcell2 (pre := []) (q := 1) Y4 rfl).1
        have f2 := (Rows.bcell2 (pre := []) (q := 2) Y4 rfl).1
        refine bodyPost_ret (v := .agg #[.int .i64 mo, .int .i64 q, .slice A3 (1 + q) c3]) (by simp [results, Try.results15, go_sem, f0, f1, f2]) rfl ?_
        rw [hrf.out]
        exact ⟨_, _, rfl, ⟨_, rfl, HE.out.toR⟩, Y4.right.tail, (((HB5.out.setCell (p := ⟨w.heap.size, 2, none⟩) (Nat.le_refl _) _).setCell (p := ⟨br, 0, none⟩) hbr _).setCell (p := ⟨br, 1, none⟩) hbr _).setCell (p := ⟨br, 2, none⟩) hbr _⟩
end Go.Proofs.Ytoiagfdhanhnkaa
