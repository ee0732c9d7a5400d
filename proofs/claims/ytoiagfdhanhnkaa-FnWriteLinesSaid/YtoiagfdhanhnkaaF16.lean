/-
  FILES: WriteLines of the program. By gen_f16.py.
-/
import Derived.Test.YtoiagfdhanhnkaaF13
import Derived.Test.YtoiagfdhanhnkaaF15
namespace Go.Proofs.Ytoiagfdhanhnkaa
open Go.RowKit Nm
set_option linter.unusedSimpArgs false
set_option linter.unusedVariables false

theorem sizeX_neg {l : TxtL} : decide (sizeX l < 0) = !linesOk l := by
  unfold sizeX
  cases h : linesOk l with
  | true => rw [if_pos rfl]; exact decide_eq_false (by omega)
  | false => rw [if_neg (by decide)]; rfl

set_option maxHeartbeats 16000000 in
set_option maxRecDepth 100000 in
theorem implWriteLines_c {v v2 : Value} {B : Nat} {d : Fil} {l : TxtL} {w : World} (h : FilIn w B v d) (h2 : StrsIn w B v2 l) (hB : B ≤ w.heap.size) :
    Calls Try.prog 24 #[v, v2] w (FilPostO w (filOr (linesX d l)) (linesX d l).isSome) := by
  obtain ⟨A, n, c, hv⟩ := h.form
  have C1 := hid (fun (w1 : World) (hb : Below w.heap.size w w1) => implValidFiles_c (h.below hb hB) (Nat.le_trans hB hb.size))
  have C2 := hid (fun (w1 : World) (hb : Below w.heap.size w w1) => implSizeOf_c (h2.below hb hB) (Nat.le_trans hB hb.size))
  have HSN := hid (sizeX_neg (l := l))
  have HL2 := hid h2
  obtain ⟨u, hu, hin⟩ := h
  obtain ⟨mo, ke, L⟩ := d
  rw [hv] at hu
  have hu2 : u = .slice A n c := by simp at hu; exact hu.symm
  subst hu2
  clear hu
  subst hv
  obtain ⟨Al, cl, rfl, hlc, hlm⟩ := h2.1.form
  unfold maxLen at hlm
  show Calls Try.prog 24 #[.agg #[.int .i64 mo, .int .i64 ke, .slice A n c], .slice Al l.length cl] w _
  have hl20 := h2.2.1
  unfold maxTxt at hl20
  have HX := hid (show linesX ⟨mo, ke, L⟩ l = if filOk ⟨mo, ke, L⟩ && linesOk l then linesG ⟨mo, ke, L⟩ l else none from rfl)
  generalize linesX ⟨mo, ke, L⟩ l = X at *
  generalize hll : l.length = nl at *
  generalize sizeX l = sz at *
  replace hll := hid hll
  have HR2 := hid (two_boxes w mo ke A n c)
  have HB2 := hid (two_below w mo ke A n c)
  have hbr : w.heap.size ≤ w.heap.size + 1 := by omega
  clear h2
  cases hz : filOk ⟨mo, ke, L⟩ with
  | false =>
    rw [hz] at C1 HX
    obtain rfl : X = none := HX.out
    clear C2 HX hz hin
    go_enter Try.func24, Try.ntmps24
    go_wp2_with fail
    refine (C1.out _ HB2.out).mono ?_
    rintro e w1 ⟨rfl, hb⟩
    replace HR2 := hid (HR2.out.below hb)
    replace HB2 := hid (HB2.out.trans (hb.mono HB2.out.size))
    clear hb C1
    obtain ⟨r0, x0, _⟩ := Rows.bcell2 (pre := []) (q := 0) HR2.out rfl
    obtain ⟨r1, x1, _⟩ := Rows.bcell2 (pre := []) (q := 1) HR2.out rfl
    obtain ⟨r2, x2, _⟩ := Rows.bcell2 (pre := []) (q := 2) HR2.out rfl
    go_wp2_with fail
    have Y2 := Rows.boxset (pre := []) (j := 0) (u := .int .i64 0) HR2.out
    have Y3 := Rows.boxset (pre := []) (j := 1) (u := .int .i64 0) Y2
    have Y4 := Rows.boxset (pre := []) (j := 2) (u := .slice none 0 0) Y3
    have f0 := (Rows.bcell2 (pre := []) (q := 0) Y4 rfl).1
    have f1 := (Rows.bcell2 (pre := []) (q := 1) Y4 rfl).1
    have f2 := (Rows.bcell2 (pre := []) (q := 2) Y4 rfl).1
    refine bodyPost_ret (v := .tuple #[.agg #[.int .i64 0, .int .i64 0, .slice none 0 0], .bool false]) (by simp [results, Try.results24, go_sem, f0, f1, f2]) rfl ?_
    obtain ⟨rs, h1, h2⟩ := zero_fil
    exact ⟨_, rs, rfl, h1, h2, ((HB2.out.setCell (p := ⟨w.heap.size + 1, 0, none⟩) hbr (.int .i64 0)).setCell (p := ⟨w.heap.size + 1, 1, none⟩) hbr (.int .i64 0)).setCell (p := ⟨w.heap.size + 1, 2, none⟩) hbr (.slice none 0 0)⟩
  | true =>
    rw [hz] at C1 HX
    cases hq : linesOk l with
    | false =>
      rw [hq] at HX HSN
      have hneg : decide (sz < 0) = true := HSN.out
      obtain rfl : X = none := HX.out
      clear HX hq hin hz HSN
      go_enter Try.func24, Try.ntmps24
      go_wp2_with fail
      refine (C1.out _ HB2.out).mono ?_
      rintro e w1 ⟨rfl, hb⟩
      replace HR2 := hid (HR2.out.below hb)
      replace HB2 := hid (HB2.out.trans (hb.mono HB2.out.size))
      clear hb C1
      go_wp2_with fail
      refine (C2.out _ HB2.out).mono ?_
      rintro e w2 ⟨rfl, hb⟩
      replace HR2 := hid (HR2.out.below hb)
      replace HB2 := hid (HB2.out.trans (hb.mono HB2.out.size))
      clear hb C2
      obtain ⟨r0, x0, _⟩ := Rows.bcell2 (pre := []) (q := 0) HR2.out rfl
      obtain ⟨r1, x1, _⟩ := Rows.bcell2 (pre := []) (q := 1) HR2.out rfl
      obtain ⟨r2, x2, _⟩ := Rows.bcell2 (pre := []) (q := 2) HR2.out rfl
      go_wp2_with fail
      have Y2 := Rows.boxset (pre := []) (j := 0) (u := .int .i64 0) HR2.out
      have Y3 := Rows.boxset (pre := []) (j := 1) (u := .int .i64 0) Y2
      have Y4 := Rows.boxset (pre := []) (j := 2) (u := .slice none 0 0) Y3
      have f0 := (Rows.bcell2 (pre := []) (q := 0) Y4 rfl).1
      have f1 := (Rows.bcell2 (pre := []) (q := 1) Y4 rfl).1
      have f2 := (Rows.bcell2 (pre := []) (q := 2) Y4 rfl).1
      refine bodyPost_ret (v := .tuple #[.agg #[.int .i64 0, .int .i64 0, .slice none 0 0], .bool false]) (by simp [results, Try.results24, go_sem, f0, f1, f2]) rfl ?_
      obtain ⟨rs, h1, h2⟩ := zero_fil
      exact ⟨_, rs, rfl, h1, h2, ((HB2.out.setCell (p := ⟨w.heap.size + 1, 0, none⟩) hbr (.int .i64 0)).setCell (p := ⟨w.heap.size + 1, 1, none⟩) hbr (.int .i64 0)).setCell (p := ⟨w.heap.size + 1, 2, none⟩) hbr (.slice none 0 0)⟩
    | true =>
      rw [hq] at HX HSN
      have hneg : decide (sz < 0) = false := HSN.out
      replace HX := hid (show X = linesG ⟨mo, ke, L⟩ l from HX.out)
      have hpt := fil_parts hz
      have hsm := fil_small hz
      have hln : L.length = n := NestIn.count hin.1
      have hl4 : L.length ≤ 4 := hsm.1
      have C3 := hid (fun (w1 : World) (hb : Below w.heap.size w w1) => implCopyLists_c (hin.below hb hB) (Nat.le_trans hB hb.size) (by omega))
      have HLN := hid hln
      have HOK := hid hz
      have HQL := hid hq
      have hnl : nl ≤ 12 := by have := (lines_len hq).1; have h9 := hll.out; omega
      clear hpt hsm hin hln hz hq HSN hl4
      go_enter Try.func24, Try.ntmps24
      go_wp2_with fail
      refine (C1.out _ HB2.out).mono ?_
      rintro e w1 ⟨rfl, hb⟩
      replace HR2 := hid (HR2.out.below hb)
      replace HB2 := hid (HB2.out.trans (hb.mono HB2.out.size))
      clear hb C1
      go_wp2_with fail
      refine (C2.out _ HB2.out).mono ?_
      rintro e w2 ⟨rfl, hb⟩
      replace HR2 := hid (HR2.out.below hb)
      replace HB2 := hid (HB2.out.trans (hb.mono HB2.out.size))
      clear hb C2
      have p2 := (Rows.bc HR2.out.right 2 rfl).1
      go_wp2_with fail
      refine (C3.out _ HB2.out).mono ?_
      rintro e w4 ⟨u4, rs4, rfl, hs4, hr4, hb4⟩
      obtain ⟨A2, n2, c2, rfl⟩ := hs4.form hr4
      have HR4 := hid (show Rows w4 w.heap.size ([bxRow 26 3 w.heap.size [.int .i64 mo, .int .i64 ke, .slice A n c]] ++ ([bxRow 26 3 (w.heap.size + 1) [.int .i64 0, .int .i64 0, .slice none 0 0]] ++ rs4)) from (HR2.out.newer hb4 hr4 HB2.out.size).perm (List.perm_append_comm.trans (by rw [List.append_assoc]; exact List.perm_append_comm_assoc _ _ _)))
      have HB4 := hid (HB2.out.trans (hb4.mono HB2.out.size))
      have HS4 := hid hs4
      clear hs4 hr4 hb4 p2 C3 HR2 HB2
      obtain ⟨d2, x2, _⟩ := Rows.bcell2 (pre := []) (q := 2) HR4.out rfl
      go_wp2_with fail
      have HRw := hid (show Rows (w4.setCell ⟨w.heap.size, 2, none⟩ (.slice A2 n2 c2)) w.heap.size ([bxRow 26 3 w.heap.size [.int .i64 mo, .int .i64 ke, .slice A2 n2 c2]] ++ ([bxRow 26 3 (w.heap.size + 1) [.int .i64 0, .int .i64 0, .slice none 0 0]] ++ rs4)) from Rows.boxset (pre := []) (j := 2) (u := .slice A2 n2 c2) HR4.out)
      have HBw := hid (HB4.out.setCell (p := ⟨w.heap.size, 2, none⟩) (Nat.le_refl _) (.slice A2 n2 c2))
      generalize w4.setCell ⟨w.heap.size, 2, none⟩ (.slice A2 n2 c2) = wd at *
      clear HR4 HB4 d2 x2
      go_loopw [25] (fun iv wr => ∃ (k : Nat) (e : Fil) (A2 : Option Addr) (n2 c2 : Nat) (rs : List Row), iv = .int .i64 k ∧ k ≤ nl ∧ Hid (linesG ⟨mo, ke, L⟩ (l.take k) = some e ∧ filOk e = true) ∧ Hid (FilR rs (.agg #[.int .i64 e.mo, .int .i64 e.ke, .slice A2 n2 c2]) e) ∧ Hid (Rows wr w.heap.size ([bxRow 26 3 w.heap.size [.int .i64 e.mo, .int .i64 e.ke, .slice A2 n2 c2]] ++ ([bxRow 26 3 (w.heap.size + 1) [.int .i64 0, .int .i64 0, .slice none 0 0]] ++ rs))) ∧ Hid (Below w.heap.size w wr)) (fun iv _ => nl - (intOf iv).toNat)
      case atStart => exact ⟨0, ⟨mo, ke, L⟩, A2, n2, c2, rs4, rfl, Nat.zero_le _, ⟨by rw [List.take_zero]; rfl, HOK.out⟩, ⟨_, rfl, HS4.out⟩, HRw.out, HBw.out⟩
      case round =>
        clear HRw HBw HS4
        rename World => wr
        obtain ⟨k, e, A3, n3, c3, rs3, rfl, hk, HG, HE, HR, HB⟩ := hrel
        obtain ⟨em, ek, el⟩ := e
        have HE' : Hid (FilR rs3 (.agg #[.int .i64 em, .int .i64 ek, .slice A3 n3 c3]) ⟨em, ek, el⟩) := HE
        have HR' : Hid (Rows wr w.heap.size ([bxRow 26 3 w.heap.size [.int .i64 em, .int .i64 ek, .slice A3 n3 c3]] ++ ([bxRow 26 3 (w.heap.size + 1) [.int .i64 0, .int .i64 0, .slice none 0 0]] ++ rs3))) := HR
        clear HE HR
        obtain ⟨o0, y0, _⟩ := Rows.bcell2 (pre := []) (q := 0) HR'.out rfl
        obtain ⟨o1, y1, _⟩ := Rows.bcell2 (pre := []) (q := 1) HR'.out rfl
        obtain ⟨o2, y2, _⟩ := Rows.bcell2 (pre := []) (q := 2) HR'.out rfl
        by_cases hlt : k < nl
        · obtain ⟨b, ob, px, rfl, hbB, hx, c0⟩ := (show Sl wr B 1 nl (.slice Al nl cl) (l.map txt) by have := ((HL2.out.below HB.out hB).1); rwa [hll.out] at this).text hlt
          have hpx := line_at HQL.out (List.mem_of_getElem? hx)
          have hpz : px.size ≤ 1048576 := by have := line_len hpx; rw [← Lib.size_eq] at this; omega
          have HEF := hid (fil_fit HG.out.2)
          have C5 := hid (implWriteLine_c px hpz (FilR.at_ HE'.out HR'.out.right.right HEF.out) (Nat.le_refl _))
          have HST := hid (linesG_step HG.out.1 hx)
          have HOK2 := hid (fun (e : Fil) (he : writeX ⟨em, ek, el⟩ px.data.toList = some e) => (write_ok he).2.2.1)
          have hlt' : (k : Int) < (nl : Int) := by omega
          clear hx hpx hpz
          go_wp2_with fail
          refine C5.out.mono ?_
          generalize hwx : writeX ⟨em, ek, el⟩ px.data.toList = Y at *
          rintro e w5 ⟨u5, rs5, rfl, hs5, hr5, hb5⟩
          obtain ⟨A5, n5, c5, rfl⟩ := hs5.form hr5
          have HR5 := hid ((HR'.out.newer hb5 hr5 HB.out.size).perm ((List.perm_append_comm_assoc _ _ _).trans (List.Perm.append_left _ (List.perm_append_comm_assoc _ _ _))))
          have HB5 := hid (HB.out.trans (hb5.mono HB.out.size))
          replace HR5 := hid (HR5.out.sub ((List.Sublist.refl _).append ((List.Sublist.refl _).append (List.sublist_append_left _ _))))
          have HS5 := hid hs5
          have hwb : w.heap.size < w5.heap.size := (Rows.bc HR5.out.left 0 rfl).2
          clear hs5 hr5 hb5 o0 o1 o2 y0 y1 y2 HR' HE' C5 HB c0 hwx
          cases Y with
          | none =>
            have hXn : X = none := by
              rw [HX.out]
              exact linesG_dead (k := k + 1) HST.out
            subst hXn
            have HR6 := hid (HR5.out.below ((Below.refl w5.heap.size w5).alloc (Nat.le_refl _) (.cells #[.int .i64 (filOr none).mo, .int .i64 (filOr none).ke, .slice A5 n5 c5] 26)))
            have HB6 := hid (HB5.out.alloc HB5.out.size (.cells #[.int .i64 (filOr none).mo, .int .i64 (filOr none).ke, .slice A5 n5 c5] 26))
            clear HR5 HB5
            have hiso : (none : Option Fil).isSome = false := rfl
            obtain ⟨r0, x0, _⟩ := Rows.bcell2 (pre := [_]) (q := 0) HR6.out rfl
            obtain ⟨r1, x1, _⟩ := Rows.bcell2 (pre := [_]) (q := 1) HR6.out rfl
            obtain ⟨r2, x2, _⟩ := Rows.bcell2 (pre := [_]) (q := 2) HR6.out rfl
            go_wp2_with fail
            have Y2 := Rows.boxset (pre := [_]) (j := 0) (u := .int .i64 0) HR6.out
            have Y3 := Rows.boxset (pre := [_]) (j := 1) (u := .int .i64 0) Y2
            have Y4 := Rows.boxset (pre := [_]) (j := 2) (u := .slice none 0 0) Y3
            have f0 := (Rows.bcell2 (pre := [_]) (q := 0) Y4 rfl).1
            have f1 := (Rows.bcell2 (pre := [_]) (q := 1) Y4 rfl).1
            have f2 := (Rows.bcell2 (pre := [_]) (q := 2) Y4 rfl).1
            refine bodyPost_ret (v := .tuple #[.agg #[.int .i64 0, .int .i64 0, .slice none 0 0], .bool false]) (by simp [results, Try.results24, go_sem, f0, f1, f2]) rfl ?_
            obtain ⟨rs, h1, h2⟩ := zero_fil
            exact ⟨_, rs, rfl, h1, h2, ((HB6.out.setCell (p := ⟨w.heap.size + 1, 0, none⟩) hbr (.int .i64 0)).setCell (p := ⟨w.heap.size + 1, 1, none⟩) hbr (.int .i64 0)).setCell (p := ⟨w.heap.size + 1, 2, none⟩) hbr (.slice none 0 0)⟩
          | some e2 =>
            have hiso : (some e2 : Option Fil).isSome = true := rfl
            have hor : filOr (some e2) = e2 := rfl
            rw [hor] at HS5
            have he2 := HOK2.out e2 rfl
            have HG2 := hid (And.intro HST.out he2)
            rw [hor]
            obtain ⟨o0, y0, _⟩ := Rows.bcell2 (pre := []) (q := 0) HR5.out rfl
            obtain ⟨o1, y1, _⟩ := Rows.bcell2 (pre := []) (q := 1) HR5.out rfl
            obtain ⟨o2, y2, _⟩ := Rows.bcell2 (pre := []) (q := 2) HR5.out rfl
            obtain ⟨e2m, e2k, e2l⟩ := e2
            have Y0 := Rows.boxset (pre := []) (j := 0) (u := .int .i64 e2m) HR5.out
            have Y1 := Rows.boxset (pre := []) (j := 1) (u := .int .i64 e2k) Y0
            have Y2 := Rows.boxset (pre := []) (j := 2) (u := .slice A5 n5 c5) Y1
            have HB7 := ((HB5.out.setCell (p := ⟨w.heap.size, 0, none⟩) (Nat.le_refl _) (.int .i64 e2m)).setCell (p := ⟨w.heap.size, 1, none⟩) (Nat.le_refl _) (.int .i64 e2k)).setCell (p := ⟨w.heap.size, 2, none⟩) (Nat.le_refl _) (.slice A5 n5 c5)
            have Y3 := hid (Y2.below ((Below.refl _ _).alloc (Nat.le_refl _) (.cells #[.int .i64 e2m, .int .i64 e2k, .slice A5 n5 c5] 26)))
            have HB8 := hid (HB7.alloc HB7.size (.cells #[.int .i64 e2m, .int .i64 e2k, .slice A5 n5 c5] 26))
            clear Y0 Y1 Y2 HB7 HR5 HB5 he2 HG HST
            go_wp2_with fail
            go_roundw
            case rel => exact ⟨k + 1, ⟨e2m, e2k, e2l⟩, A5, n5, c5, rs5, by go_num, by omega, HG2.out, HS5.out, Y3.out, HB8.out⟩
            case measure => simp [intOf]; omega
        · obtain rfl : k = nl := by omega
          have hXe : X = some ⟨em, ek, el⟩ := by
            rw [HX.out]
            have := HG.out.1
            rwa [List.take_of_length_le (by rw [hll.out]; exact Nat.le_refl _)] at this
          subst hXe
          clear o0 o1 o2 y0 y1 y2
          obtain ⟨o0, _, _⟩ := Rows.bcell2 (pre := []) (q := 0) HR'.out rfl
          obtain ⟨o1, _, _⟩ := Rows.bcell2 (pre := []) (q := 1) HR'.out rfl
          obtain ⟨o2, _, _⟩ := Rows.bcell2 (pre := []) (q := 2) HR'.out rfl
          obtain ⟨r0, x0, _⟩ := Rows.bcell2 (pre := [_]) (q := 0) HR'.out rfl
          obtain ⟨r1, x1, _⟩ := Rows.bcell2 (pre := [_]) (q := 1) HR'.out rfl
          obtain ⟨r2, x2, _⟩ := Rows.bcell2 (pre := [_]) (q := 2) HR'.out rfl
          go_wp2_with fail
          have Y2 := Rows.boxset (pre := [_]) (j := 0) (u := .int .i64 em) HR'.out
          have Y3 := Rows.boxset (pre := [_]) (j := 1) (u := .int .i64 ek) Y2
          have Y4 := Rows.boxset (pre := [_]) (j := 2) (u := .slice A3 n3 c3) Y3
          have f0 := (Rows.bcell2 (pre := [_]) (q := 0) Y4 rfl).1
          have f1 := (Rows.bcell2 (pre := [_]) (q := 1) Y4 rfl).1
          have f2 := (Rows.bcell2 (pre := [_]) (q := 2) Y4 rfl).1
          refine bodyPost_ret (v := .tuple #[.agg #[.int .i64 em, .int .i64 ek, .slice A3 n3 c3], .bool true]) (by simp [results, Try.results24, go_sem, f0, f1, f2]) rfl ?_
          exact ⟨_, rs3, rfl, HE'.out, (Rows.right Y4), ((HB.out.setCell (p := ⟨w.heap.size + 1, 0, none⟩) hbr (.int .i64 em)).setCell (p := ⟨w.heap.size + 1, 1, none⟩) hbr (.int .i64 ek)).setCell (p := ⟨w.heap.size + 1, 2, none⟩) hbr (.slice A3 n3 c3)⟩
end Go.Proofs.Ytoiagfdhanhnkaa
