/-
  FILES: WriteLine of the program. By gen_f15.py.
-/
import Derived.Test.YtoiagfdhanhnkaaF12
import Derived.Test.YtoiagfdhanhnkaaF14
namespace Go.Proofs.Ytoiagfdhanhnkaa
open Go.RowKit Nm
set_option linter.unusedSimpArgs false
set_option linter.unusedVariables false

theorem sizeX_ok {l : TxtL} (h : linesOk l = true) : sizeX l = (sizeL l : Int) := by unfold sizeX; rw [if_pos h]

set_option maxHeartbeats 16000000 in
set_option maxRecDepth 100000 in
theorem implWriteLine_c {v : Value} {B : Nat} {d : Fil} {w : World} (x : ByteArray) (hx : x.size ≤ 1048576) (h : FilIn w B v d) (hB : B ≤ w.heap.size) :
    Calls Try.prog 20 #[v, .string x] w (FilPostO w (filOr (writeX d x.data.toList)) (writeX d x.data.toList).isSome) := by
  obtain ⟨A, n, c, hv⟩ := h.form
  have C1 := hid (fun (w1 : World) (hb : Below w.heap.size w w1) => implValidFiles_c (h.below hb hB) (Nat.le_trans hB hb.size))
  have C2 := hid (fun (w1 : World) => isLine_c x w1 (by unfold maxLen; omega))
  have C5 := hid (fun (w1 : World) (hb : Below w.heap.size w w1) => implRollFiles_c (h.below hb hB) (Nat.le_trans hB hb.size))
  have C6 := hid (fun (w1 : World) => lineSize_c x w1 hx)
  have HWF := hid (fun (hz : filOk d = true) => write_fit (x := x.data.toList) hz (by rw [← Lib.size_eq]; exact hx))
  have C4 := hid (fun (w1 : World) (v1 : Value) (h1 : FilIn w1 w1.heap.size v1 (writeF d x.data.toList)) => implValidFiles_c h1 (Nat.le_refl _))
  have HX := hid (show writeX d x.data.toList = if filOk d && lineOk x.data.toList && filOk (writeF d x.data.toList) then some (writeF d x.data.toList) else none from rfl)
  have HF := hid (show writeF d x.data.toList = ⟨d.mo, d.ke, putL x.data.toList (baseF d x.data.toList).li⟩ from rfl)
  generalize writeX d x.data.toList = X at *
  generalize hwf : writeF d x.data.toList = F at *
  have hwm : F.mo = d.mo := by rw [← hwf]; rfl
  have hwk : F.ke = d.ke := by rw [← hwf]; rfl
  clear hwf
  obtain ⟨u, hu, hin⟩ := h
  obtain ⟨mo, ke, L⟩ := d
  obtain ⟨fm, fk, fl⟩ := F
  obtain rfl : fm = mo := hwm
  obtain rfl : fk = ke := hwk
  rw [hv] at hu
  have hu2 : u = .slice A n c := by simp at hu; exact hu.symm
  subst hu2
  clear hu
  subst hv
  show Calls Try.prog 20 #[.agg #[.int .i64 fm, .int .i64 fk, .slice A n c], .string x] w _
  have HR2 := hid (two_boxes w fm fk A n c)
  have HB2 := hid (two_below w fm fk A n c)
  have hbr : w.heap.size ≤ w.heap.size + 1 := by omega
  cases hz : filOk ⟨fm, fk, L⟩ with
  | false =>
    rw [hz] at C1 HX
    obtain rfl : X = none := HX.out
    clear C2 C4 C5 C6 HX hz HWF HF hin
    go_enter Try.func20, Try.ntmps20
    go_wp2_with fail
    refine (C1.out _ HB2.out).mono ?_
    rintro e w1 ⟨rfl, hb⟩
    replace HR2 := hid (HR2.out.below hb)
    replace HB2 := hid (HB2.out.trans (hb.mono HB2.out.size))
    clear hb C1
    obtain ⟨r0, x0, _⟩ := Rows.bcell2 (pre := []) (q := 0) HR2.out rfl
    obtain ⟨r1, x1, _⟩ := Rows.bcell2 (pre := []) (q := 1) HR2.out rfl
    obtain ⟨r2, x2, _⟩ := Rows.bcell2 (pre := []) (q := 2) HR2.out rfl
    go_wp2_with fail
    have Y2 := Rows.boxset (pre := []) (j := 0) (u := .int .i64 0) HR2.out
    have Y3 := Rows.boxset (pre := []) (j := 1) (u := .int .i64 0) Y2
    have Y4 := Rows.boxset (pre := []) (j := 2) (u := .slice none 0 0) Y3
    have f0 := (Rows.bcell2 (pre := []) (q := 0) Y4 rfl).1
    have f1 := (Rows.bcell2 (pre := []) (q := 1) Y4 rfl).1
    have f2 := (Rows.bcell2 (pre := []) (q := 2) Y4 rfl).1
    refine bodyPost_ret (v := .tuple #[.agg #[.int .i64 0, .int .i64 0, .slice none 0 0], .bool false]) (by simp [results, Try.results20, go_sem, f0, f1, f2]) rfl ?_
    obtain ⟨rs, h1, h2⟩ := zero_fil
    exact ⟨_, rs, rfl, h1, h2, ((HB2.out.setCell (p := ⟨w.heap.size + 1, 0, none⟩) hbr (.int .i64 0)).setCell (p := ⟨w.heap.size + 1, 1, none⟩) hbr (.int .i64 0)).setCell (p := ⟨w.heap.size + 1, 2, none⟩) hbr (.slice none 0 0)⟩
  | true =>
    rw [hz] at C1 HX
    replace HWF := hid (HWF.out hz)
    cases hq : lineOk x.data.toList with
    | false =>
      rw [hq] at C2 HX
      obtain rfl : X = none := HX.out
      clear C4 C5 C6 HX hq HWF HF hin hz
      go_enter Try.func20, Try.ntmps20
      go_wp2_with fail
      refine (C1.out _ HB2.out).mono ?_
      rintro e w1 ⟨rfl, hb⟩
      replace HR2 := hid (HR2.out.below hb)
      replace HB2 := hid (HB2.out.trans (hb.mono HB2.out.size))
      clear hb C1
      go_wp2_with fail
      refine (C2.out _).mono ?_
      rintro e w2 ⟨rfl, hb⟩
      replace HR2 := hid (HR2.out.below hb)
      replace HB2 := hid (HB2.out.trans (hb.mono HB2.out.size))
      clear hb C2
      obtain ⟨r0, x0, _⟩ := Rows.bcell2 (pre := []) (q := 0) HR2.out rfl
      obtain ⟨r1, x1, _⟩ := Rows.bcell2 (pre := []) (q := 1) HR2.out rfl
      obtain ⟨r2, x2, _⟩ := Rows.bcell2 (pre := []) (q := 2) HR2.out rfl
      go_wp2_with fail
      have Y2 := Rows.boxset (pre := []) (j := 0) (u := .int .i64 0) HR2.out
      have Y3 := Rows.boxset (pre := []) (j := 1) (u := .int .i64 0) Y2
      have Y4 := Rows.boxset (pre := []) (j := 2) (u := .slice none 0 0) Y3
      have f0 := (Rows.bcell2 (pre := []) (q := 0) Y4 rfl).1
      have f1 := (Rows.bcell2 (pre := []) (q := 1) Y4 rfl).1
      have f2 := (Rows.bcell2 (pre := []) (q := 2) Y4 rfl).1
      refine bodyPost_ret (v := .tuple #[.agg #[.int .i64 0, .int .i64 0, .slice none 0 0], .bool false]) (by simp [results, Try.results20, go_sem, f0, f1, f2]) rfl ?_
      obtain ⟨rs, h1, h2⟩ := zero_fil
      exact ⟨_, rs, rfl, h1, h2, ((HB2.out.setCell (p := ⟨w.heap.size + 1, 0, none⟩) hbr (.int .i64 0)).setCell (p := ⟨w.heap.size + 1, 1, none⟩) hbr (.int .i64 0)).setCell (p := ⟨w.heap.size + 1, 2, none⟩) hbr (.slice none 0 0)⟩
    | true =>
      rw [hq] at C2 HX
      have hpt := fil_parts hz
      have hsm := fil_small hz
      have hln : L.length = n := NestIn.count hin.1
      have hl4 : L.length ≤ 4 := hsm.1
      have hl1 : 1 ≤ L.length := hpt.2.2.2.2.2.1
      have hmo1 : 1 ≤ fm := hpt.2.1
      have hmo2 : fm ≤ 120 := hpt.2.2.1
      obtain ⟨l0, Lt, rfl⟩ : ∃ l0 Lt, L = l0 :: Lt := by cases L with
        | nil => simp at hl1
        | cons a t => exact ⟨a, t, rfl⟩
      have hok0 : linesOk l0 = true := fil_lines hz l0 (List.mem_cons_self ..)
      have hl12 : l0.length ≤ 12 := (lines_len hok0).1
      have hsz0 := SzL_le hok0
      have hxl : (x.size : Int) ≤ 40 := by have := line_len hq; rw [← Lib.size_eq] at this; omega
      have C3 := hid (fun (w1 : World) (hb : Below w.heap.size w w1) => implCopyLists_c (hin.below hb hB) (Nat.le_trans hB hb.size) (by omega))
      have HXS := hid (sizeX_ok hok0)
      have C7 := hid (fun (W : World) (v : Value) (hs : StrsIn W B v l0) (hB : B ≤ W.heap.size) => implSizeOf_c hs hB)
      rw [HXS.out] at C7
      have HI := hid hin
      obtain ⟨_, _, e9, hnc, hcm⟩ := hin.1.form
      have hnc2 : n ≤ c := by injection e9 with a1 a2 a3; omega
      rw [hln] at hl1 hl4
      have HRX := hid (fun (h0 : 0 < l0.length) => (show rollX ⟨fm, fk, l0 :: Lt⟩ = rollF ⟨fm, fk, l0 :: Lt⟩ by unfold rollX; rw [hz, if_pos rfl, if_neg (by show ¬ l0.length = 0; omega)]))
      have HBF := hid (show baseF ⟨fm, fk, l0 :: Lt⟩ x.data.toList = if (decide ((0 : Int) < (l0.length : Int)) && decide (fm < (sizeL l0 : Int) + ((x.size : Int) + 1))) then rollF ⟨fm, fk, l0 :: Lt⟩ else ⟨fm, fk, l0 :: Lt⟩ by rw [Lib.size_eq, ← Int.add_assoc]; rfl)
      have HLN := hid hln
      clear hpt hsm hin e9 hnc hcm hln hz hq hok0 HXS
      go_enter Try.func20, Try.ntmps20
      go_wp2_with fail
      refine (C1.out _ HB2.out).mono ?_
      rintro e w1 ⟨rfl, hb⟩
      replace HR2 := hid (HR2.out.below hb)
      replace HB2 := hid (HB2.out.trans (hb.mono HB2.out.size))
      clear hb C1
      go_wp2_with fail
      refine (C2.out _).mono ?_
      rintro e w2 ⟨rfl, hb⟩
      replace HR2 := hid (HR2.out.below hb)
      replace HB2 := hid (HB2.out.trans (hb.mono HB2.out.size))
      clear hb C2
      have p0 := (Rows.bc HR2.out.right 0 rfl).1
      have p1 := (Rows.bc HR2.out.right 1 rfl).1
      have p2 := (Rows.bc HR2.out.right 2 rfl).1
      obtain ⟨b, o, u, l, hA, hbB, hxx, c0, hin⟩ := (HI.out.below HB2.out hB).elem (k := 0) (by omega)
      subst hA
      obtain ⟨A', c', rfl, hnc', hcm'⟩ := hin.1.form
      obtain rfl : l0 = l := Option.some.inj hxx
      rw [Nat.add_zero] at c0
      unfold maxLen at hcm'
      have HIN := hid hin
      generalize hln : l0.length = ln at *
      generalize hsl : sizeL l0 = sl at *
      have HLs := hid (And.intro hln hsl)
      have hl0 : 0 < n := by omega
      have wr1 : (0 : Int) ≤ (sl : Int) := by omega
      have wr3 : (0 : Int) ≤ (x.size : Int) := by omega
      clear hin hxx hln hsl hx
      rcases Nat.eq_zero_or_pos ln with h0 | h0
      · have hFE := hid (show fl = (l0 ++ [x.data.toList]) :: Lt by have h9 := HF.out; rw [HBF.out, decide_eq_false (show ¬ (0 : Int) < (ln : Int) by omega)] at h9; injection h9)
        have g1 : decide (0 < ln) = false := decide_eq_false (by omega)
        have g1' : decide ((0 : Int) < (ln : Int)) = false := decide_eq_false (by omega)
        replace h0 := hid h0
        clear HF HBF HRX C5 C6 C7
        go_wp2_with fail
        refine wp_region_held_drew (S := (fun w' : World => w'.cell? ⟨w.heap.size, 0, none⟩ = some (.int .i64 fm))) (by kernel_rfl) p0 (fun hS => ?_)
        refine wpAnyH_take (i := 0) (oi := ?oi101) (v := ?v101) ?hi101 (by kernel_rfl) ?hf101 ?hr101 ?hQ101 (Or.inl ⟨?hw101, ?hy101⟩) (by assumption) ?rest101
        case hi101 => simp only [List.getElem?_toArray, List.getElem?_cons_succ, List.getElem?_cons_zero]; rfl
        case hf101 => kernel_rfl
        case hr101 => kernel_rfl
        case hw101 => rfl
        case hy101 => (intro w hSw; (try dsimp only at hSw); go_simp; all_goals (first | done | with_reducible rfl))
        case hQ101 => exact fun _ _ _ h => h
        simp only [Act.put, List.setIfInBounds_toArray, List.set_cons_zero, List.set_cons_succ]
        refine wpAnyH_take (i := 1) (oi := ?oi102) (v := ?v102) ?hi102 (by kernel_rfl) ?hf102 ?hr102 ?hQ102 (Or.inl ⟨?hw102, ?hy102⟩) (by assumption) ?rest102
        case hi102 => simp only [List.getElem?_toArray, List.getElem?_cons_succ, List.getElem?_cons_zero]; rfl
        case hf102 => kernel_rfl
        case hr102 => kernel_rfl
        case hw102 => rfl
        case hy102 => (intro w hSw; (try dsimp only at hSw); go_simp; all_goals (first | done | with_reducible rfl))
        case hQ102 => exact fun _ _ _ h => h
        simp only [Act.put, List.setIfInBounds_toArray, List.set_cons_zero, List.set_cons_succ]
        refine wpAnyH_take (i := 2) (oi := ?oi103) (v := ?v103) ?hi103 (by kernel_rfl) ?hf103 ?hr103 ?hQ103 (Or.inl ⟨?hw103, ?hy103⟩) (by assumption) ?rest103
        case hi103 => simp only [List.getElem?_toArray, List.getElem?_cons_succ, List.getElem?_cons_zero]; rfl
        case hf103 => kernel_rfl
        case hr103 => kernel_rfl
        case hw103 => rfl
        case hy103 => (intro w hSw; (try dsimp only at hSw); go_simp; all_goals (first | done | with_reducible rfl))
        case hQ103 => exact fun _ _ _ h => h
        simp only [Act.put, List.setIfInBounds_toArray, List.set_cons_zero, List.set_cons_succ]
        refine wpAnyH_take (i := 3) (oi := ?oi104) (v := ?v104) ?hi104 (by kernel_rfl) ?hf104 ?hr104 ?hQ104 (Or.inl ⟨?hw104, ?hy104⟩) (by assumption) ?rest104
        case hi104 => simp only [List.getElem?_toArray, List.getElem?_cons_succ, List.getElem?_cons_zero]; rfl
        case hf104 => kernel_rfl
        case hr104 => kernel_rfl
        case hw104 => rfl
        case hy104 => (intro w hSw; (try dsimp only at hSw); go_simp; all_goals (first | done | with_reducible rfl))
        case hQ104 => exact fun _ _ _ h => h
        simp only [Act.put, List.setIfInBounds_toArray, List.set_cons_zero, List.set_cons_succ]
        refine wpAnyH_take (i := 4) (oi := ?oi105) (v := undef) ?hi105 (by kernel_rfl) ?hf105 ?hr105 ?hQ105 (Or.inr ⟨?hw105, rfl⟩) (by assumption) ?rest105
        case hi105 => simp only [List.getElem?_toArray, List.getElem?_cons_succ, List.getElem?_cons_zero]; rfl
        case hf105 => kernel_rfl
        case hr105 => kernel_rfl
        case hw105 => rfl
        case hQ105 => exact fun _ _ _ h => h
        simp only [Act.put, List.setIfInBounds_toArray, List.set_cons_zero, List.set_cons_succ]
        refine wpAnyH_take (i := 5) (oi := ?oi106) (v := undef) ?hi106 (by kernel_rfl) ?hf106 ?hr106 ?hQ106 (Or.inr ⟨?hw106, rfl⟩) (by assumption) ?rest106
        case hi106 => simp only [List.getElem?_toArray, List.getElem?_cons_succ, List.getElem?_cons_zero]; rfl
        case hf106 => kernel_rfl
        case hr106 => kernel_rfl
        case hw106 => rfl
        case hQ106 => exact fun _ _ _ h => h
        simp only [Act.put, List.setIfInBounds_toArray, List.set_cons_zero, List.set_cons_succ]
        refine wpAnyH_take (i := 6) (oi := ?oi107) (v := undef) ?hi107 (by kernel_rfl) ?hf107 ?hr107 ?hQ107 (Or.inr ⟨?hw107, rfl⟩) (by assumption) ?rest107
        case hi107 => simp only [List.getElem?_toArray, List.getElem?_cons_succ, List.getElem?_cons_zero]; rfl
        case hf107 => kernel_rfl
        case hr107 => kernel_rfl
        case hw107 => rfl
        case hQ107 => exact fun _ _ _ h => h
        simp only [Act.put, List.setIfInBounds_toArray, List.set_cons_zero, List.set_cons_succ]
        refine wpAnyH_take (i := 7) (oi := ?oi108) (v := undef) ?hi108 (by kernel_rfl) ?hf108 ?hr108 ?hQ108 (Or.inr ⟨?hw108, rfl⟩) (by assumption) ?rest108
        case hi108 => simp only [List.getElem?_toArray, List.getElem?_cons_succ, List.getElem?_cons_zero]; rfl
        case hf108 => kernel_rfl
        case hr108 => kernel_rfl
        case hw108 => rfl
        case hQ108 => exact fun _ _ _ h => h
        simp only [Act.put, List.setIfInBounds_toArray, List.set_cons_zero, List.set_cons_succ]
        refine wpAnyH_take (i := 8) (oi := ?oi109) (v := undef) ?hi109 (by kernel_rfl) ?hf109 ?hr109 ?hQ109 (Or.inr ⟨?hw109, rfl⟩) (by assumption) ?rest109
        case hi109 => simp only [List.getElem?_toArray, List.getElem?_cons_succ, List.getElem?_cons_zero]; rfl
        case hf109 => kernel_rfl
        case hr109 => kernel_rfl
        case hw109 => rfl
        case hQ109 => exact fun _ _ _ h => h
        simp only [Act.put, List.setIfInBounds_toArray, List.set_cons_zero, List.set_cons_succ]
        refine wpAnyH_take (i := 9) (oi := ?oi110) (v := undef) ?hi110 (by kernel_rfl) ?hf110 ?hr110 ?hQ110 (Or.inr ⟨?hw110, rfl⟩) (by assumption) ?rest110
        case hi110 => simp only [List.getElem?_toArray, List.getElem?_cons_succ, List.getElem?_cons_zero]; rfl
        case hf110 => kernel_rfl
        case hr110 => kernel_rfl
        case hw110 => rfl
        case hQ110 => exact fun _ _ _ h => h
        simp only [Act.put, List.setIfInBounds_toArray, List.set_cons_zero, List.set_cons_succ]
        refine wpAnyH_take (i := 10) (oi := ?oi111) (v := undef) ?hi111 (by kernel_rfl) ?hf111 ?hr111 ?hQ111 (Or.inr ⟨?hw111, rfl⟩) (by assumption) ?rest111
        case hi111 => simp only [List.getElem?_toArray, List.getElem?_cons_succ, List.getElem?_cons_zero]; rfl
        case hf111 => kernel_rfl
        case hr111 => kernel_rfl
        case hw111 => rfl
        case hQ111 => exact fun _ _ _ h => h
        simp only [Act.put, List.setIfInBounds_toArray, List.set_cons_zero, List.set_cons_succ]
        refine wpAnyH_take (i := 11) (oi := ?oi112) (v := undef) ?hi112 (by kernel_rfl) ?hf112 ?hr112 ?hQ112 (Or.inr ⟨?hw112, rfl⟩) (by assumption) ?rest112
        case hi112 => simp only [List.getElem?_toArray, List.getElem?_cons_succ, List.getElem?_cons_zero]; rfl
        case hf112 => kernel_rfl
        case hr112 => kernel_rfl
        case hw112 => rfl
        case hQ112 => exact fun _ _ _ h => h
        simp only [Act.put, List.setIfInBounds_toArray, List.set_cons_zero, List.set_cons_succ]
        refine wpAnyH_take (i := 12) (oi := ?oi113) (v := ?v113) ?hi113 (by kernel_rfl) ?hf113 ?hr113 ?hQ113 (Or.inl ⟨?hw113, ?hy113⟩) (by assumption) ?rest113
        case hi113 => simp only [List.getElem?_toArray, List.getElem?_cons_succ, List.getElem?_cons_zero]; rfl
        case hf113 => kernel_rfl
        case hr113 => kernel_rfl
        case hw113 => rfl
        case hy113 => (intro w hSw; (try dsimp only at hSw); go_simp; all_goals (first | done | with_reducible rfl))
        case hQ113 => exact fun _ _ _ h => h
        simp only [Act.put, List.setIfInBounds_toArray, List.set_cons_zero, List.set_cons_succ]
        refine wpAnyH_done (by kernel_rfl) ?_ _
        clear hS
        have HR3 := hid HR2.out.dr
        have HB3 := hid HB2.out.drew
        clear HR2 HB2
        go_wp2_with fail
        refine (C3.out _ HB3.out).mono ?_
        rintro e w4 ⟨u4, rs4, rfl, hs4, hr4, hb4⟩
        obtain ⟨A2, c2, rfl, _, _⟩ := (NestR.own_ hs4 hr4).form
        obtain ⟨es4, rfl, hne4⟩ := hs4.ne
        have hle4 := hne4.1
        rw [show (l0 :: Lt).length = n from HLN.out] at hr4 hle4
        rw [show (l0 :: Lt).length = n from HLN.out]
        obtain ⟨u6, rs6, es6, rfl, hs6, hne6⟩ := hne4.cons_inv
        obtain ⟨A6, c6, hu6, _, _⟩ := (Sl.of_own (hs6.own (nest_sub hr4 (List.mem_cons_self ..)))).form
        have hu6' : u6 = .slice A6 ln c6 := by rw [← HLs.out.1]; exact hu6
        subst hu6'
        have hs6' : rs6 = [⟨9, 1, ln, .slice A6 ln c6, l0.map txt⟩] := by rw [← HLs.out.1]; rw [← HLs.out.1] at hs6; exact hs6
        subst hs6'
        have hn6 : es6.length + 1 = n := hle4
        obtain ⟨g, rfl, _⟩ := own_some (show World.ownsRow w4 _ 35 1 (.slice A2 n c2) n _ by have h9 := nest_top hr4; rw [hle4] at h9; exact h9) (by omega)
        have HE6 := hid hne6
        have HR4 := hid ((HR3.out.newer hb4 hr4 HB3.out.size).perm ((List.Perm.append_left _ List.perm_append_comm).trans (List.perm_append_comm_assoc _ _ _)))
        have HB4 := hid (HB3.out.trans (hb4.mono HB3.out.size))
        clear hs4 hr4 hb4 hne4 hle4 hs6 hne6 hu6 p0 p1 p2 c0 HIN HI C3 HR3 HB3
        obtain ⟨d2, x2, _⟩ := Rows.bcell2 (pre := []) (q := 2) HR4.out rfl
        have HRw := hid (show Rows (w4.setCell ⟨w.heap.size, 2, none⟩ (.slice (some ⟨g, 0, none⟩) n c2)) w.heap.size ([bxRow 26 3 w.heap.size [.int .i64 fm, .int .i64 fk, .slice (some ⟨g, 0, none⟩) n c2]] ++ (nestRows 35 (.slice (some ⟨g, 0, none⟩) n c2) ((.slice A6 ln c6, [⟨9, 1, ln, .slice A6 ln c6, l0.map txt⟩]) :: es6) ++ [bxRow 26 3 (w.heap.size + 1) [.int .i64 0, .int .i64 0, .slice none 0 0]])) from Rows.boxset (pre := []) (j := 2) (u := .slice (some ⟨g, 0, none⟩) n c2) HR4.out)
        have HBw := hid (HB4.out.setCell (p := ⟨w.heap.size, 2, none⟩) (Nat.le_refl _) (.slice (some ⟨g, 0, none⟩) n c2))
        clear HR4 HB4
        have CA := hid (appendLine_c  x HRw.out hn6 HBw.out.size (by omega))
        go_wp2_with fail
        refine CA.out.mono ?_
        rintro e w5 ⟨rfl, A7, c7, hR5, hb5⟩
        have HR5 := hid hR5
        have HB5 := hid (HBw.out.trans hb5)
        clear hR5 hb5 CA HRw HBw
        have HE5 := hid (show FilR (nestRows 35 (.slice (some ⟨g, 0, none⟩) n c2) ((.slice A7 (ln + 1) c7, [⟨9, 1, ln + 1, .slice A7 (ln + 1) c7, (l0 ++ [x.data.toList]).map txt⟩]) :: es6)) (.agg #[.int .i64 fm, .int .i64 fk, .slice (some ⟨g, 0, none⟩) n c2]) ⟨fm, fk, fl⟩ from ⟨_, rfl, by rw [hFE.out]; exact (NE.cons HE6.out (l := l0 ++ [x.data.toList]) (by unfold StrsR; rw [List.length_append, HLs.out.1]; rfl)).toR⟩)
        generalize nestRows 35 (.slice (some ⟨g, 0, none⟩) n c2) _ = rs5 at *
        have d0 := (Rows.bc HR5.out.left 0 rfl).1
        have d1 := (Rows.bc HR5.out.left 1 rfl).1
        have d2 := (Rows.bc HR5.out.left 2 rfl).1
        go_wp2_with fail
        refine (C4.out _ _ (FilR.at_ HE5.out HR5.out.right.left HWF.out)).mono ?_
        rintro e w6 ⟨rfl, hb⟩
        replace HR5 := hid ((HR5.out.below hb).perm (List.Perm.append_left _ List.perm_append_comm))
        replace HB5 := hid (HB5.out.trans (hb.mono HB5.out.size))
        clear hb d0 d1 d2 C4
        cases hf : filOk ⟨fm, fk, fl⟩ with
        | false =>
          rw [hf] at HX
          obtain rfl : X = none := HX.out
          clear HX hf
          obtain ⟨r0, x0, _⟩ := Rows.bcell2 (pre := [_]) (q := 0) HR5.out rfl
          obtain ⟨r1, x1, _⟩ := Rows.bcell2 (pre := [_]) (q := 1) HR5.out rfl
          obtain ⟨r2, x2, _⟩ := Rows.bcell2 (pre := [_]) (q := 2) HR5.out rfl
          go_wp2_with fail
          have Y2 := Rows.boxset (pre := [_]) (j := 0) (u := .int .i64 0) HR5.out
          have Y3 := Rows.boxset (pre := [_]) (j := 1) (u := .int .i64 0) Y2
          have Y4 := Rows.boxset (pre := [_]) (j := 2) (u := .slice none 0 0) Y3
          have f0 := (Rows.bcell2 (pre := [_]) (q := 0) Y4 rfl).1
          have f1 := (Rows.bcell2 (pre := [_]) (q := 1) Y4 rfl).1
          have f2 := (Rows.bcell2 (pre := [_]) (q := 2) Y4 rfl).1
          refine bodyPost_ret (v := .tuple #[.agg #[.int .i64 0, .int .i64 0, .slice none 0 0], .bool false]) (by simp [results, Try.results20, go_sem, f0, f1, f2]) rfl ?_
          obtain ⟨rs, h1, h2⟩ := zero_fil
          exact ⟨_, rs, rfl, h1, h2, ((HB5.out.setCell (p := ⟨w.heap.size + 1, 0, none⟩) hbr (.int .i64 0)).setCell (p := ⟨w.heap.size + 1, 1, none⟩) hbr (.int .i64 0)).setCell (p := ⟨w.heap.size + 1, 2, none⟩) hbr (.slice none 0 0)⟩
        | true =>
          rw [hf] at HX
          obtain rfl : X = some ⟨fm, fk, fl⟩ := HX.out
          clear HX hf
          obtain ⟨o0, _, _⟩ := Rows.bcell2 (pre := []) (q := 0) HR5.out rfl
          obtain ⟨o1, _, _⟩ := Rows.bcell2 (pre := []) (q := 1) HR5.out rfl
          obtain ⟨o2, _, _⟩ := Rows.bcell2 (pre := []) (q := 2) HR5.out rfl
          obtain ⟨r0, x0, _⟩ := Rows.bcell2 (pre := [_]) (q := 0) HR5.out rfl
          obtain ⟨r1, x1, _⟩ := Rows.bcell2 (pre := [_]) (q := 1) HR5.out rfl
          obtain ⟨r2, x2, _⟩ := Rows.bcell2 (pre := [_]) (q := 2) HR5.out rfl
          go_wp2_with fail
          have Y2 := Rows.boxset (pre := [_]) (j := 0) (u := .int .i64 fm) HR5.out
          have Y3 := Rows.boxset (pre := [_]) (j := 1) (u := .int .i64 fk) Y2
          have Y4 := Rows.boxset (pre := [_]) (j := 2) (u := .slice (some ⟨g, 0, none⟩) n c2) Y3
          have f0 := (Rows.bcell2 (pre := [_]) (q := 0) Y4 rfl).1
          have f1 := (Rows.bcell2 (pre := [_]) (q := 1) Y4 rfl).1
          have f2 := (Rows.bcell2 (pre := [_]) (q := 2) Y4 rfl).1
          refine bodyPost_ret (v := .tuple #[.agg #[.int .i64 fm, .int .i64 fk, .slice (some ⟨g, 0, none⟩) n c2], .bool true]) (by simp [results, Try.results20, go_sem, f0, f1, f2]) rfl ?_
          exact ⟨_, rs5, rfl, HE5.out, (Rows.right Y4), ((HB5.out.setCell (p := ⟨w.heap.size + 1, 0, none⟩) hbr (.int .i64 fm)).setCell (p := ⟨w.heap.size + 1, 1, none⟩) hbr (.int .i64 fk)).setCell (p := ⟨w.heap.size + 1, 2, none⟩) hbr (.slice (some ⟨g, 0, none⟩) n c2)⟩
      · have g1' : decide ((0 : Int) < (ln : Int)) = true := decide_eq_true (by omega)
        have g1 : decide (0 < ln) = true := decide_eq_true h0
        have hwr : IntKind.i64.wrap ((sl : Int) + ((x.size : Int) + 1)) = (sl : Int) + ((x.size : Int) + 1) := by rw [IntKind.wrap_i64] <;> omega
        cases g2 : decide (fm < (sl : Int) + ((x.size : Int) + 1)) with
        | false =>
          have hFE := hid (show fl = (l0 ++ [x.data.toList]) :: Lt by have h9 := HF.out; rw [HBF.out, g1', g2] at h9; injection h9)
          clear HF HBF HRX C5
          go_wp2_with fail
          refine wp_region_held_drew (S := (fun w' : World => w'.cell? ⟨w.heap.size, 0, none⟩ = some (.int .i64 fm))) (by kernel_rfl) p0 (fun hS => ?_)
          refine wpAnyH_take (i := 0) (oi := ?oi114) (v := ?v114) ?hi114 (by kernel_rfl) ?hf114 ?hr114 ?hQ114 (Or.inl ⟨?hw114, ?hy114⟩) (by assumption) ?rest114
          case hi114 => simp only [List.getElem?_toArray, List.getElem?_cons_succ, List.getElem?_cons_zero]; rfl
          case hf114 => kernel_rfl
          case hr114 => kernel_rfl
          case hw114 => rfl
          case hy114 => (intro w hSw; (try dsimp only at hSw); go_simp; all_goals (first | done | with_reducible rfl))
          case hQ114 => exact fun _ _ _ h => h
          simp only [Act.put, List.setIfInBounds_toArray, List.set_cons_zero, List.set_cons_succ]
          refine wpAnyH_take (i := 1) (oi := ?oi115) (v := ?v115) ?hi115 (by kernel_rfl) ?hf115 ?hr115 ?hQ115 (Or.inl ⟨?hw115, ?hy115⟩) (by assumption) ?rest115
          case hi115 => simp only [List.getElem?_toArray, List.getElem?_cons_succ, List.getElem?_cons_zero]; rfl
          case hf115 => kernel_rfl
          case hr115 => kernel_rfl
          case hw115 => rfl
          case hy115 => (intro w hSw; (try dsimp only at hSw); go_simp; all_goals (first | done | with_reducible rfl))
          case hQ115 => exact fun _ _ _ h => h
          simp only [Act.put, List.setIfInBounds_toArray, List.set_cons_zero, List.set_cons_succ]
          refine wpAnyH_take (i := 2) (oi := ?oi116) (v := ?v116) ?hi116 (by kernel_rfl) ?hf116 ?hr116 ?hQ116 (Or.inl ⟨?hw116, ?hy116⟩) (by assumption) ?rest116
          case hi116 => simp only [List.getElem?_toArray, List.getElem?_cons_succ, List.getElem?_cons_zero]; rfl
          case hf116 => kernel_rfl
          case hr116 => kernel_rfl
          case hw116 => rfl
          case hy116 => (intro w hSw; (try dsimp only at hSw); go_simp; all_goals (first | done | with_reducible rfl))
          case hQ116 => exact fun _ _ _ h => h
          simp only [Act.put, List.setIfInBounds_toArray, List.set_cons_zero, List.set_cons_succ]
          refine wpAnyH_take (i := 3) (oi := ?oi117) (v := ?v117) ?hi117 (by kernel_rfl) ?hf117 ?hr117 ?hQ117 (Or.inl ⟨?hw117, ?hy117⟩) (by assumption) ?rest117
          case hi117 => simp only [List.getElem?_toArray, List.getElem?_cons_succ, List.getElem?_cons_zero]; rfl
          case hf117 => kernel_rfl
          case hr117 => kernel_rfl
          case hw117 => rfl
          case hy117 => (intro w hSw; (try dsimp only at hSw); go_simp; all_goals (first | done | with_reducible rfl))
          case hQ117 => exact fun _ _ _ h => h
          simp only [Act.put, List.setIfInBounds_toArray, List.set_cons_zero, List.set_cons_succ]
          refine wpAnyH_take (i := 4) (oi := ?oi118) (v := ?v118) ?hi118 (by kernel_rfl) ?hf118 ?hr118 ?hQ118 (Or.inl ⟨?hw118, ?hy118⟩) (by assumption) ?rest118
          case hi118 => simp only [List.getElem?_toArray, List.getElem?_cons_succ, List.getElem?_cons_zero]; rfl
          case hf118 => kernel_rfl
          case hr118 => kernel_rfl
          case hw118 => rfl
          case hy118 => (intro w hSw; (try dsimp only at hSw); go_simp; all_goals (first | done | with_reducible rfl))
          case hQ118 => exact fun _ _ _ h => h
          simp only [Act.put, List.setIfInBounds_toArray, List.set_cons_zero, List.set_cons_succ]
          refine wpAnyH_take (i := 6) (oi := ?oi119) (v := ?v119) ?hi119 (by kernel_rfl) ?hf119 ?hr119 ?hQ119 (Or.inl ⟨?hw119, ?hy119⟩) (by assumption) ?rest119
          case hi119 => simp only [List.getElem?_toArray, List.getElem?_cons_succ, List.getElem?_cons_zero]; rfl
          case hf119 => kernel_rfl
          case hr119 => kernel_rfl
          case hw119 => rfl
          case hy119 => (intro w hSw; (try dsimp only at hSw); go_simp; all_goals (first | done | with_reducible rfl))
          case hQ119 => exact fun _ _ _ h => h
          simp only [Act.put, List.setIfInBounds_toArray, List.set_cons_zero, List.set_cons_succ]
          refine wpAnyH_take (i := 9) (oi := ?oi120) (v := ?v120) ?hi120 (by kernel_rfl) ?hf120 ?hr120 ?hQ120 (Or.inl ⟨?hw120, ?hy120⟩) (by assumption) ?rest120
          case hi120 => simp only [List.getElem?_toArray, List.getElem?_cons_succ, List.getElem?_cons_zero]; rfl
          case hf120 => kernel_rfl
          case hr120 => kernel_rfl
          case hw120 => rfl
          case hy120 => (intro w hSw; (try dsimp only at hSw); go_simp; all_goals (first | done | with_reducible rfl))
          case hQ120 => exact fun _ _ _ h => h
          simp only [Act.put, List.setIfInBounds_toArray, List.set_cons_zero, List.set_cons_succ]
          refine wpAnyH_take (i := 10) (oi := ?oi121) (v := ?v121) ?hi121 (by kernel_rfl) ?hf121 ?hr121 ?hQ121 (Or.inl ⟨?hw121, ?hy121⟩) (by assumption) ?rest121
          case hi121 => simp only [List.getElem?_toArray, List.getElem?_cons_succ, List.getElem?_cons_zero]; rfl
          case hf121 => kernel_rfl
          case hr121 => kernel_rfl
          case hw121 => rfl
          case hy121 => (intro w hSw; (try dsimp only at hSw); go_simp; all_goals (first | done | with_reducible rfl))
          case hQ121 => exact fun _ _ _ h => h
          simp only [Act.put, List.setIfInBounds_toArray, List.set_cons_zero, List.set_cons_succ]
          refine wpAnyH_ready (rs := [5]) (by kernel_rfl) (by simp) ?_
          refine AllReadyH.cons (o := ?oi122) ?hi122 (fun K hK => ?step122) AllReadyH.nil
          case hi122 => simp only [List.getElem?_toArray, List.getElem?_cons_succ, List.getElem?_cons_zero]; rfl
          rw [if_pos (by rfl)]
          go_simp
          go_at_call 42
          refine (C7.out _ _ (HIN.out.below (Below.refl w2.heap.size w2).drew (Nat.le_trans hB HB2.out.size)) (Nat.le_trans hB HB2.out.size)).mono ?_
          rintro e w3 ⟨rfl, hb⟩
          have HR3 := hid (HR2.out.dr.below hb)
          have HB3 := hid (HB2.out.drew.trans (hb.mono HB2.out.size))
          clear hb p0 p1 p2 HR2 HB2
          have p0 := (Rows.bc HR3.out.right 0 rfl).1
          have p1 := (Rows.bc HR3.out.right 1 rfl).1
          have p2 := (Rows.bc HR3.out.right 2 rfl).1
          refine hK.out _ _ p0 (fun hS9 => ?_)
          refine wpAnyH_ready (rs := [7]) (by kernel_rfl) (by simp) ?_
          refine AllReadyH.cons (o := ?oi123) ?hi123 (fun K hK => ?step123) AllReadyH.nil
          case hi123 => simp only [List.getElem?_toArray, List.getElem?_cons_succ, List.getElem?_cons_zero]; rfl
          rw [if_pos (by rfl)]
          go_simp
          go_at_call 56
          refine (C6.out _).mono ?_
          rintro e w9 ⟨rfl, rfl⟩
          rename World => w3
          refine hK.out _ _ p0 (fun hS9 => ?_)
          refine wpAnyH_take (i := 8) (oi := ?oi124) (v := ?v124) ?hi124 (by kernel_rfl) ?hf124 ?hr124 ?hQ124 (Or.inl ⟨?hw124, ?hy124⟩) (by assumption) ?rest124
          case hi124 => simp only [List.getElem?_toArray, List.getElem?_cons_succ, List.getElem?_cons_zero]; rfl
          case hf124 => kernel_rfl
          case hr124 => kernel_rfl
          case hw124 => rfl
          case hy124 => (intro w hSw; (try dsimp only at hSw); go_simp; all_goals (first | done | with_reducible rfl))
          case hQ124 => exact fun _ _ _ h => h
          simp only [Act.put, List.setIfInBounds_toArray, List.set_cons_zero, List.set_cons_succ]
          refine wpAnyH_take (i := 11) (oi := ?oi125) (v := ?v125) ?hi125 (by kernel_rfl) ?hf125 ?hr125 ?hQ125 (Or.inl ⟨?hw125, ?hy125⟩) (by assumption) ?rest125
          case hi125 => simp only [List.getElem?_toArray, List.getElem?_cons_succ, List.getElem?_cons_zero]; rfl
          case hf125 => kernel_rfl
          case hr125 => kernel_rfl
          case hw125 => rfl
          case hy125 => (intro w hSw; (try dsimp only at hSw); go_simp; all_goals (first | done | with_reducible rfl))
          case hQ125 => exact fun _ _ _ h => h
          simp only [Act.put, List.setIfInBounds_toArray, List.set_cons_zero, List.set_cons_succ]
          refine wpAnyH_take (i := 12) (oi := ?oi126) (v := ?v126) ?hi126 (by kernel_rfl) ?hf126 ?hr126 ?hQ126 (Or.inl ⟨?hw126, ?hy126⟩) (by assumption) ?rest126
          case hi126 => simp only [List.getElem?_toArray, List.getElem?_cons_succ, List.getElem?_cons_zero]; rfl
          case hf126 => kernel_rfl
          case hr126 => kernel_rfl
          case hw126 => rfl
          case hy126 => (intro w hSw; (try dsimp only at hSw); go_simp; all_goals (first | done | with_reducible rfl))
          case hQ126 => exact fun _ _ _ h => h
          simp only [Act.put, List.setIfInBounds_toArray, List.set_cons_zero, List.set_cons_succ]
          refine wpAnyH_done (by kernel_rfl) ?_ _
          clear hS hS9 C6 C7
          go_wp2_with fail
          refine (C3.out _ HB3.out).mono ?_
          rintro e w4 ⟨u4, rs4, rfl, hs4, hr4, hb4⟩
          obtain ⟨A2, c2, rfl, _, _⟩ := (NestR.own_ hs4 hr4).form
          obtain ⟨es4, rfl, hne4⟩ := hs4.ne
          have hle4 := hne4.1
          rw [show (l0 :: Lt).length = n from HLN.out] at hr4 hle4
          rw [show (l0 :: Lt).length = n from HLN.out]
          obtain ⟨u6, rs6, es6, rfl, hs6, hne6⟩ := hne4.cons_inv
          obtain ⟨A6, c6, hu6, _, _⟩ := (Sl.of_own (hs6.own (nest_sub hr4 (List.mem_cons_self ..)))).form
          have hu6' : u6 = .slice A6 ln c6 := by rw [← HLs.out.1]; exact hu6
          subst hu6'
          have hs6' : rs6 = [⟨9, 1, ln, .slice A6 ln c6, l0.map txt⟩] := by rw [← HLs.out.1]; rw [← HLs.out.1] at hs6; exact hs6
          subst hs6'
          have hn6 : es6.length + 1 = n := hle4
          obtain ⟨g, rfl, _⟩ := own_some (show World.ownsRow w4 _ 35 1 (.slice A2 n c2) n _ by have h9 := nest_top hr4; rw [hle4] at h9; exact h9) (by omega)
          have HE6 := hid hne6
          have HR4 := hid ((HR3.out.newer hb4 hr4 HB3.out.size).perm ((List.Perm.append_left _ List.perm_append_comm).trans (List.perm_append_comm_assoc _ _ _)))
          have HB4 := hid (HB3.out.trans (hb4.mono HB3.out.size))
          clear hs4 hr4 hb4 hne4 hle4 hs6 hne6 hu6 p0 p1 p2 c0 HIN HI C3 HR3 HB3
          obtain ⟨d2, x2, _⟩ := Rows.bcell2 (pre := []) (q := 2) HR4.out rfl
          have HRw := hid (show Rows (w4.setCell ⟨w.heap.size, 2, none⟩ (.slice (some ⟨g, 0, none⟩) n c2)) w.heap.size ([bxRow 26 3 w.heap.size [.int .i64 fm, .int .i64 fk, .slice (some ⟨g, 0, none⟩) n c2]] ++ (nestRows 35 (.slice (some ⟨g, 0, none⟩) n c2) ((.slice A6 ln c6, [⟨9, 1, ln, .slice A6 ln c6, l0.map txt⟩]) :: es6) ++ [bxRow 26 3 (w.heap.size + 1) [.int .i64 0, .int .i64 0, .slice none 0 0]])) from Rows.boxset (pre := []) (j := 2) (u := .slice (some ⟨g, 0, none⟩) n c2) HR4.out)
          have HBw := hid (HB4.out.setCell (p := ⟨w.heap.size, 2, none⟩) (Nat.le_refl _) (.slice (some ⟨g, 0, none⟩) n c2))
          clear HR4 HB4
          have CA := hid (appendLine_c  x HRw.out hn6 HBw.out.size (by omega))
          go_wp2_with fail
          refine CA.out.mono ?_
          rintro e w5 ⟨rfl, A7, c7, hR5, hb5⟩
          have HR5 := hid hR5
          have HB5 := hid (HBw.out.trans hb5)
          clear hR5 hb5 CA HRw HBw
          have HE5 := hid (show FilR (nestRows 35 (.slice (some ⟨g, 0, none⟩) n c2) ((.slice A7 (ln + 1) c7, [⟨9, 1, ln + 1, .slice A7 (ln + 1) c7, (l0 ++ [x.data.toList]).map txt⟩]) :: es6)) (.agg #[.int .i64 fm, .int .i64 fk, .slice (some ⟨g, 0, none⟩) n c2]) ⟨fm, fk, fl⟩ from ⟨_, rfl, by rw [hFE.out]; exact (NE.cons HE6.out (l := l0 ++ [x.data.toList]) (by unfold StrsR; rw [List.length_append, HLs.out.1]; rfl)).toR⟩)
          generalize nestRows 35 (.slice (some ⟨g, 0, none⟩) n c2) _ = rs5 at *
          have d0 := (Rows.bc HR5.out.left 0 rfl).1
          have d1 := (Rows.bc HR5.out.left 1 rfl).1
          have d2 := (Rows.bc HR5.out.left 2 rfl).1
          go_wp2_with fail
          refine (C4.out _ _ (FilR.at_ HE5.out HR5.out.right.left HWF.out)).mono ?_
          rintro e w6 ⟨rfl, hb⟩
          replace HR5 := hid ((HR5.out.below hb).perm (List.Perm.append_left _ List.perm_append_comm))
          replace HB5 := hid (HB5.out.trans (hb.mono HB5.out.size))
          clear hb d0 d1 d2 C4
          cases hf : filOk ⟨fm, fk, fl⟩ with
          | false =>
            rw [hf] at HX
            obtain rfl : X = none := HX.out
            clear HX hf
            obtain ⟨r0, x0, _⟩ := Rows.bcell2 (pre := [_]) (q := 0) HR5.out rfl
            obtain ⟨r1, x1, _⟩ := Rows.bcell2 (pre := [_]) (q := 1) HR5.out rfl
            obtain ⟨r2, x2, _⟩ := Rows.bcell2 (pre := [_]) (q := 2) HR5.out rfl
            go_wp2_with fail
            have Y2 := Rows.boxset (pre := [_]) (j := 0) (u := .int .i64 0) HR5.out
            have Y3 := Rows.boxset (pre := [_]) (j := 1) (u := .int .i64 0) Y2
            have Y4 := Rows.boxset (pre := [_]) (j := 2) (u := .slice none 0 0) Y3
            have f0 := (Rows.bcell2 (pre := [_]) (q := 0) Y4 rfl).1
            have f1 := (Rows.bcell2 (pre := [_]) (q := 1) Y4 rfl).1
            have f2 := (Rows.bcell2 (pre := [_]) (q := 2) Y4 rfl).1
            refine bodyPost_ret (v := .tuple #[.agg #[.int .i64 0, .int .i64 0, .slice none 0 0], .bool false]) (by simp [results, Try.results20, go_sem, f0, f1, f2]) rfl ?_
            obtain ⟨rs, h1, h2⟩ := zero_fil
            exact ⟨_, rs, rfl, h1, h2, ((HB5.out.setCell (p := ⟨w.heap.size + 1, 0, none⟩) hbr (.int .i64 0)).setCell (p := ⟨w.heap.size + 1, 1, none⟩) hbr (.int .i64 0)).setCell (p := ⟨w.heap.size + 1, 2, none⟩) hbr (.slice none 0 0)⟩
          | true =>
            rw [hf] at HX
            obtain rfl : X = some ⟨fm, fk, fl⟩ := HX.out
            clear HX hf
            obtain ⟨o0, _, _⟩ := Rows.bcell2 (pre := []) (q := 0) HR5.out rfl
            obtain ⟨o1, _, _⟩ := Rows.bcell2 (pre := []) (q := 1) HR5.out rfl
            obtain ⟨o2, _, _⟩ := Rows.bcell2 (pre := []) (q := 2) HR5.out rfl
            obtain ⟨r0, x0, _⟩ := Rows.bcell2 (pre := [_]) (q := 0) HR5.out rfl
            obtain ⟨r1, x1, _⟩ := Rows.bcell2 (pre := [_]) (q := 1) HR5.out rfl
            obtain ⟨r2, x2, _⟩ := Rows.bcell2 (pre := [_]) (q := 2) HR5.out rfl
            go_wp2_with fail
            have Y2 := Rows.boxset (pre := [_]) (j := 0) (u := .int .i64 fm) HR5.out
            have Y3 := Rows.boxset (pre := [_]) (j := 1) (u := .int .i64 fk) Y2
            have Y4 := Rows.boxset (pre := [_]) (j := 2) (u := .slice (some ⟨g, 0, none⟩) n c2) Y3
            have f0 := (Rows.bcell2 (pre := [_]) (q := 0) Y4 rfl).1
            have f1 := (Rows.bcell2 (pre := [_]) (q := 1) Y4 rfl).1
            have f2 := (Rows.bcell2 (pre := [_]) (q := 2) Y4 rfl).1
            refine bodyPost_ret (v := .tuple #[.agg #[.int .i64 fm, .int .i64 fk, .slice (some ⟨g, 0, none⟩) n c2], .bool true]) (by simp [results, Try.results20, go_sem, f0, f1, f2]) rfl ?_
            exact ⟨_, rs5, rfl, HE5.out, (Rows.right Y4), ((HB5.out.setCell (p := ⟨w.heap.size + 1, 0, none⟩) hbr (.int .i64 fm)).setCell (p := ⟨w.heap.size + 1, 1, none⟩) hbr (.int .i64 fk)).setCell (p := ⟨w.heap.size + 1, 2, none⟩) hbr (.slice (some ⟨g, 0, none⟩) n c2)⟩
        | true =>
          have hFE := hid (show fl = (([] : TxtL) ++ [x.data.toList]) :: (l0 :: Lt).take fk.toNat by have h9 := HF.out; rw [HBF.out, g1', g2] at h9; injection h9)
          clear HF HBF
          go_wp2_with fail
          refine wp_region_held_drew (S := (fun w' : World => w'.cell? ⟨w.heap.size, 0, none⟩ = some (.int .i64 fm))) (by kernel_rfl) p0 (fun hS => ?_)
          refine wpAnyH_take (i := 0) (oi := ?oi127) (v := ?v127) ?hi127 (by kernel_rfl) ?hf127 ?hr127 ?hQ127 (Or.inl ⟨?hw127, ?hy127⟩) (by assumption) ?rest127
          case hi127 => simp only [List.getElem?_toArray, List.getElem?_cons_succ, List.getElem?_cons_zero]; rfl
          case hf127 => kernel_rfl
          case hr127 => kernel_rfl
          case hw127 => rfl
          case hy127 => (intro w hSw; (try dsimp only at hSw); go_simp; all_goals (first | done | with_reducible rfl))
          case hQ127 => exact fun _ _ _ h => h
          simp only [Act.put, List.setIfInBounds_toArray, List.set_cons_zero, List.set_cons_succ]
          refine wpAnyH_take (i := 1) (oi := ?oi128) (v := ?v128) ?hi128 (by kernel_rfl) ?hf128 ?hr128 ?hQ128 (Or.inl ⟨?hw128, ?hy128⟩) (by assumption) ?rest128
          case hi128 => simp only [List.getElem?_toArray, List.getElem?_cons_succ, List.getElem?_cons_zero]; rfl
          case hf128 => kernel_rfl
          case hr128 => kernel_rfl
          case hw128 => rfl
          case hy128 => (intro w hSw; (try dsimp only at hSw); go_simp; all_goals (first | done | with_reducible rfl))
          case hQ128 => exact fun _ _ _ h => h
          simp only [Act.put, List.setIfInBounds_toArray, List.set_cons_zero, List.set_cons_succ]
          refine wpAnyH_take (i := 2) (oi := ?oi129) (v := ?v129) ?hi129 (by kernel_rfl) ?hf129 ?hr129 ?hQ129 (Or.inl ⟨?hw129, ?hy129⟩) (by assumption) ?rest129
          case hi129 => simp only [List.getElem?_toArray, List.getElem?_cons_succ, List.getElem?_cons_zero]; rfl
          case hf129 => kernel_rfl
          case hr129 => kernel_rfl
          case hw129 => rfl
          case hy129 => (intro w hSw; (try dsimp only at hSw); go_simp; all_goals (first | done | with_reducible rfl))
          case hQ129 => exact fun _ _ _ h => h
          simp only [Act.put, List.setIfInBounds_toArray, List.set_cons_zero, List.set_cons_succ]
          refine wpAnyH_take (i := 3) (oi := ?oi130) (v := ?v130) ?hi130 (by kernel_rfl) ?hf130 ?hr130 ?hQ130 (Or.inl ⟨?hw130, ?hy130⟩) (by assumption) ?rest130
          case hi130 => simp only [List.getElem?_toArray, List.getElem?_cons_succ, List.getElem?_cons_zero]; rfl
          case hf130 => kernel_rfl
          case hr130 => kernel_rfl
          case hw130 => rfl
          case hy130 => (intro w hSw; (try dsimp only at hSw); go_simp; all_goals (first | done | with_reducible rfl))
          case hQ130 => exact fun _ _ _ h => h
          simp only [Act.put, List.setIfInBounds_toArray, List.set_cons_zero, List.set_cons_succ]
          refine wpAnyH_take (i := 4) (oi := ?oi131) (v := ?v131) ?hi131 (by kernel_rfl) ?hf131 ?hr131 ?hQ131 (Or.inl ⟨?hw131, ?hy131⟩) (by assumption) ?rest131
          case hi131 => simp only [List.getElem?_toArray, List.getElem?_cons_succ, List.getElem?_cons_zero]; rfl
          case hf131 => kernel_rfl
          case hr131 => kernel_rfl
          case hw131 => rfl
          case hy131 => (intro w hSw; (try dsimp only at hSw); go_simp; all_goals (first | done | with_reducible rfl))
          case hQ131 => exact fun _ _ _ h => h
          simp only [Act.put, List.setIfInBounds_toArray, List.set_cons_zero, List.set_cons_succ]
          refine wpAnyH_take (i := 6) (oi := ?oi132) (v := ?v132) ?hi132 (by kernel_rfl) ?hf132 ?hr132 ?hQ132 (Or.inl ⟨?hw132, ?hy132⟩) (by assumption) ?rest132
          case hi132 => simp only [List.getElem?_toArray, List.getElem?_cons_succ, List.getElem?_cons_zero]; rfl
          case hf132 => kernel_rfl
          case hr132 => kernel_rfl
          case hw132 => rfl
          case hy132 => (intro w hSw; (try dsimp only at hSw); go_simp; all_goals (first | done | with_reducible rfl))
          case hQ132 => exact fun _ _ _ h => h
          simp only [Act.put, List.setIfInBounds_toArray, List.set_cons_zero, List.set_cons_succ]
          refine wpAnyH_take (i := 9) (oi := ?oi133) (v := ?v133) ?hi133 (by kernel_rfl) ?hf133 ?hr133 ?hQ133 (Or.inl ⟨?hw133, ?hy133⟩) (by assumption) ?rest133
          case hi133 => simp only [List.getElem?_toArray, List.getElem?_cons_succ, List.getElem?_cons_zero]; rfl
          case hf133 => kernel_rfl
          case hr133 => kernel_rfl
          case hw133 => rfl
          case hy133 => (intro w hSw; (try dsimp only at hSw); go_simp; all_goals (first | done | with_reducible rfl))
          case hQ133 => exact fun _ _ _ h => h
          simp only [Act.put, List.setIfInBounds_toArray, List.set_cons_zero, List.set_cons_succ]
          refine wpAnyH_take (i := 10) (oi := ?oi134) (v := ?v134) ?hi134 (by kernel_rfl) ?hf134 ?hr134 ?hQ134 (Or.inl ⟨?hw134, ?hy134⟩) (by assumption) ?rest134
          case hi134 => simp only [List.getElem?_toArray, List.getElem?_cons_succ, List.getElem?_cons_zero]; rfl
          case hf134 => kernel_rfl
          case hr134 => kernel_rfl
          case hw134 => rfl
          case hy134 => (intro w hSw; (try dsimp only at hSw); go_simp; all_goals (first | done | with_reducible rfl))
          case hQ134 => exact fun _ _ _ h => h
          simp only [Act.put, List.setIfInBounds_toArray, List.set_cons_zero, List.set_cons_succ]
          refine wpAnyH_ready (rs := [5]) (by kernel_rfl) (by simp) ?_
          refine AllReadyH.cons (o := ?oi135) ?hi135 (fun K hK => ?step135) AllReadyH.nil
          case hi135 => simp only [List.getElem?_toArray, List.getElem?_cons_succ, List.getElem?_cons_zero]; rfl
          rw [if_pos (by rfl)]
          go_simp
          go_at_call 42
          refine (C7.out _ _ (HIN.out.below (Below.refl w2.heap.size w2).drew (Nat.le_trans hB HB2.out.size)) (Nat.le_trans hB HB2.out.size)).mono ?_
          rintro e w3 ⟨rfl, hb⟩
          have HR3 := hid (HR2.out.dr.below hb)
          have HB3 := hid (HB2.out.drew.trans (hb.mono HB2.out.size))
          clear hb p0 p1 p2 HR2 HB2
          have p0 := (Rows.bc HR3.out.right 0 rfl).1
          have p1 := (Rows.bc HR3.out.right 1 rfl).1
          have p2 := (Rows.bc HR3.out.right 2 rfl).1
          refine hK.out _ _ p0 (fun hS9 => ?_)
          refine wpAnyH_ready (rs := [7]) (by kernel_rfl) (by simp) ?_
          refine AllReadyH.cons (o := ?oi136) ?hi136 (fun K hK => ?step136) AllReadyH.nil
          case hi136 => simp only [List.getElem?_toArray, List.getElem?_cons_succ, List.getElem?_cons_zero]; rfl
          rw [if_pos (by rfl)]
          go_simp
          go_at_call 56
          refine (C6.out _).mono ?_
          rintro e w9 ⟨rfl, rfl⟩
          rename World => w3
          refine hK.out _ _ p0 (fun hS9 => ?_)
          refine wpAnyH_take (i := 8) (oi := ?oi137) (v := ?v137) ?hi137 (by kernel_rfl) ?hf137 ?hr137 ?hQ137 (Or.inl ⟨?hw137, ?hy137⟩) (by assumption) ?rest137
          case hi137 => simp only [List.getElem?_toArray, List.getElem?_cons_succ, List.getElem?_cons_zero]; rfl
          case hf137 => kernel_rfl
          case hr137 => kernel_rfl
          case hw137 => rfl
          case hy137 => (intro w hSw; (try dsimp only at hSw); go_simp; all_goals (first | done | with_reducible rfl))
          case hQ137 => exact fun _ _ _ h => h
          simp only [Act.put, List.setIfInBounds_toArray, List.set_cons_zero, List.set_cons_succ]
          refine wpAnyH_take (i := 11) (oi := ?oi138) (v := ?v138) ?hi138 (by kernel_rfl) ?hf138 ?hr138 ?hQ138 (Or.inl ⟨?hw138, ?hy138⟩) (by assumption) ?rest138
          case hi138 => simp only [List.getElem?_toArray, List.getElem?_cons_succ, List.getElem?_cons_zero]; rfl
          case hf138 => kernel_rfl
          case hr138 => kernel_rfl
          case hw138 => rfl
          case hy138 => (intro w hSw; (try dsimp only at hSw); go_simp; all_goals (first | done | with_reducible rfl))
          case hQ138 => exact fun _ _ _ h => h
          simp only [Act.put, List.setIfInBounds_toArray, List.set_cons_zero, List.set_cons_succ]
          refine wpAnyH_take (i := 12) (oi := ?oi139) (v := ?v139) ?hi139 (by kernel_rfl) ?hf139 ?hr139 ?hQ139 (Or.inl ⟨?hw139, ?hy139⟩) (by assumption) ?rest139
          case hi139 => simp only [List.getElem?_toArray, List.getElem?_cons_succ, List.getElem?_cons_zero]; rfl
          case hf139 => kernel_rfl
          case hr139 => kernel_rfl
          case hw139 => rfl
          case hy139 => (intro w hSw; (try dsimp only at hSw); go_simp; all_goals (first | done | with_reducible rfl))
          case hQ139 => exact fun _ _ _ h => h
          simp only [Act.put, List.setIfInBounds_toArray, List.set_cons_zero, List.set_cons_succ]
          refine wpAnyH_done (by kernel_rfl) ?_ _
          clear hS hS9 C6 C7
          go_wp2_with fail
          refine (C5.out _ HB3.out).mono ?_
          rw [HRX.out h0]
          rintro e w4 ⟨u4, rs4, rfl, ⟨uu, hu4, hs4⟩, hr4, hb4⟩
          have hu4' : u4 = .agg #[.int .i64 fm, .int .i64 fk, uu] := hu4
          subst hu4'
          have hs4' : StrssR rs4 uu (([] : TxtL) :: (l0 :: Lt).take fk.toNat) := hs4
          obtain ⟨A9, c9, rfl, _, _⟩ := (NestR.own_ hs4' hr4).form
          obtain ⟨es3, rfl, hne3⟩ := hs4'.ne
          have hle3 := hne3.1
          obtain ⟨u8, rs8, es8, rfl, hs8, hne8⟩ := hne3.cons_inv
          obtain ⟨A6, c6, hu8, _, _⟩ := (Sl.of_own (hs8.own (nest_sub hr4 (List.mem_cons_self ..)))).form
          have hu8' : u8 = .slice A6 ([] : TxtL).length c6 := hu8
          subst hu8'
          have hs8' : rs8 = [⟨9, 1, ([] : TxtL).length, .slice A6 ([] : TxtL).length c6, ([] : TxtL).map txt⟩] := hs8
          subst hs8'
          generalize hm3 : (([] : TxtL) :: (l0 :: Lt).take fk.toNat).length = m3 at *
          have hn8 : es8.length + 1 = m3 := by rw [← hle3]; rfl
          have hm35 : m3 ≤ 5 := by rw [← hm3]; simp; have := HLN.out; simp at this; omega
          obtain ⟨g, rfl, _⟩ := own_some (show World.ownsRow w4 _ 35 1 (.slice A9 m3 c9) m3 _ by have h9 := nest_top hr4; rw [List.length_cons, hn8] at h9; exact h9) (by omega)
          generalize hz0 : ([] : TxtL).length = z0 at *
          have hz1 : z0 ≤ 1 := by have : ([] : TxtL).length = 0 := rfl; omega
          have HE8 := hid hne8
          have HR4 := hid ((HR3.out.newer hb4 hr4 HB3.out.size).perm ((List.Perm.append_left _ List.perm_append_comm).trans (List.perm_append_comm_assoc _ _ _)))
          have HB4 := hid (HB3.out.trans (hb4.mono HB3.out.size))
          replace hz0 := hid hz0
          replace hn8 := hid hn8
          replace hm3 := hid hm3
          clear hs4 hs4' hr4 hb4 hne3 hu4 hs8 hne8 hu8 p0 p1 p2 c0 HIN HI C3 C5 HR3 HB3 hle3 hm3
          obtain ⟨d0, x0, _⟩ := Rows.bcell2 (pre := []) (q := 0) HR4.out rfl
          obtain ⟨d1, x1, _⟩ := Rows.bcell2 (pre := []) (q := 1) HR4.out rfl
          obtain ⟨d2, x2, _⟩ := Rows.bcell2 (pre := []) (q := 2) HR4.out rfl
          have Y0 := Rows.boxset (pre := []) (j := 0) (u := .int .i64 fm) HR4.out
          have Y1 := Rows.boxset (pre := []) (j := 1) (u := .int .i64 fk) Y0
          have HRw := hid (show Rows (((w4.setCell ⟨w.heap.size, 0, none⟩ (.int .i64 fm)).setCell ⟨w.heap.size, 1, none⟩ (.int .i64 fk)).setCell ⟨w.heap.size, 2, none⟩ (.slice (some ⟨g, 0, none⟩) m3 c9)) w.heap.size ([bxRow 26 3 w.heap.size [.int .i64 fm, .int .i64 fk, .slice (some ⟨g, 0, none⟩) m3 c9]] ++ (nestRows 35 (.slice (some ⟨g, 0, none⟩) m3 c9) ((.slice A6 z0 c6, [⟨9, 1, z0, .slice A6 z0 c6, ([] : TxtL).map txt⟩]) :: es8) ++ [bxRow 26 3 (w.heap.size + 1) [.int .i64 0, .int .i64 0, .slice none 0 0]])) from Rows.boxset (pre := []) (j := 2) (u := .slice (some ⟨g, 0, none⟩) m3 c9) Y1)
          have HBw := hid (((HB4.out.setCell (p := ⟨w.heap.size, 0, none⟩) (Nat.le_refl _) (.int .i64 fm)).setCell (p := ⟨w.heap.size, 1, none⟩) (Nat.le_refl _) (.int .i64 fk)).setCell (p := ⟨w.heap.size, 2, none⟩) (Nat.le_refl _) (.slice (some ⟨g, 0, none⟩) m3 c9))
          clear Y0 Y1 HR4 HB4
          replace hn8 := hn8.out
          have CA := hid (appendLine_c  x HRw.out hn8 HBw.out.size (by omega))
          go_wp2_with fail
          refine CA.out.mono ?_
          rintro e w5 ⟨rfl, A7, c7, hR5, hb5⟩
          have HR5 := hid hR5
          have HB5 := hid (HBw.out.trans hb5)
          clear hR5 hb5 CA HRw HBw
          have HE5 := hid (show FilR (nestRows 35 (.slice (some ⟨g, 0, none⟩) m3 c9) ((.slice A7 (z0 + 1) c7, [⟨9, 1, z0 + 1, .slice A7 (z0 + 1) c7, (([] : TxtL) ++ [x.data.toList]).map txt⟩]) :: es8)) (.agg #[.int .i64 fm, .int .i64 fk, .slice (some ⟨g, 0, none⟩) m3 c9]) ⟨fm, fk, fl⟩ from ⟨_, rfl, by rw [hFE.out]; exact (NE.cons HE8.out (l := ([] : TxtL) ++ [x.data.toList]) (by unfold StrsR; rw [List.length_append, hz0.out]; rfl)).toR⟩)
          generalize nestRows 35 (.slice (some ⟨g, 0, none⟩) m3 c9) _ = rs5 at *
          have d0 := (Rows.bc HR5.out.left 0 rfl).1
          have d1 := (Rows.bc HR5.out.left 1 rfl).1
          have d2 := (Rows.bc HR5.out.left 2 rfl).1
          go_wp2_with fail
          refine (C4.out _ _ (FilR.at_ HE5.out HR5.out.right.left HWF.out)).mono ?_
          rintro e w6 ⟨rfl, hb⟩
          replace HR5 := hid ((HR5.out.below hb).perm (List.Perm.append_left _ List.perm_append_comm))
          replace HB5 := hid (HB5.out.trans (hb.mono HB5.out.size))
          clear hb d0 d1 d2 C4
          cases hf : filOk ⟨fm, fk, fl⟩ with
          | false =>
            rw [hf] at HX
            obtain rfl : X = none := HX.out
            clear HX hf
            obtain ⟨r0, x0, _⟩ := Rows.bcell2 (pre := [_]) (q := 0) HR5.out rfl
            obtain ⟨r1, x1, _⟩ := Rows.bcell2 (pre := [_]) (q := 1) HR5.out rfl
            obtain ⟨r2, x2, _⟩ := Rows.bcell2 (pre := [_]) (q := 2) HR5.out rfl
            go_wp2_with fail
            have Y2 := Rows.boxset (pre := [_]) (j := 0) (u := .int .i64 0) HR5.out
            have Y3 := Rows.boxset (pre := [_]) (j := 1) (u := .int .i64 0) Y2
            have Y4 := Rows.boxset (pre := [_]) (j := 2) (u := .slice none 0 0) Y3
            have f0 := (Rows.bcell2 (pre := [_]) (q := 0) Y4 rfl).1
            have f1 := (Rows.bcell2 (pre := [_]) (q := 1) Y4 rfl).1
            have f2 := (Rows.bcell2 (pre := [_]) (q := 2) Y4 rfl).1
            refine bodyPost_ret (v := .tuple #[.agg #[.int .i64 0, .int .i64 0, .slice none 0 0], .bool false]) (by simp [results, Try.results20, go_sem, f0, f1, f2]) rfl ?_
            obtain ⟨rs, h1, h2⟩ := zero_fil
            exact ⟨_, rs, rfl, h1, h2, ((HB5.out.setCell (p := ⟨w.heap.size + 1, 0, none⟩) hbr (.int .i64 0)).setCell (p := ⟨w.heap.size + 1, 1, none⟩) hbr (.int .i64 0)).setCell (p := ⟨w.heap.size + 1, 2, none⟩) hbr (.slice none 0 0)⟩
          | true =>
            rw [hf] at HX
            obtain rfl : X = some ⟨fm, fk, fl⟩ := HX.out
            clear HX hf
            obtain ⟨o0, _, _⟩ := Rows.bcell2 (pre := []) (q := 0) HR5.out rfl
            obtain ⟨o1, _, _⟩ := Rows.bcell2 (pre := []) (q := 1) HR5.out rfl
            obtain ⟨o2, _, _⟩ := Rows.bcell2 (pre := []) (q := 2) HR5.out rfl
            obtain ⟨r0, x0, _⟩ := Rows.bcell2 (pre := [_]) (q := 0) HR5.out rfl
            obtain ⟨r1, x1, _⟩ := Rows.bcell2 (pre := [_]) (q := 1) HR5.out rfl
            obtain ⟨r2, x2, _⟩ := Rows.bcell2 (pre := [_]) (q := 2) HR5.out rfl
            go_wp2_with fail
            have Y2 := Rows.boxset (pre := [_]) (j := 0) (u := .int .i64 fm) HR5.out
            have Y3 := Rows.boxset (pre := [_]) (j := 1) (u := .int .i64 fk) Y2
            have Y4 := Rows.boxset (pre := [_]) (j := 2) (u := .slice (some ⟨g, 0, none⟩) m3 c9) Y3
            have f0 := (Rows.bcell2 (pre := [_]) (q := 0) Y4 rfl).1
            have f1 := (Rows.bcell2 (pre := [_]) (q := 1) Y4 rfl).1
            have f2 := (Rows.bcell2 (pre := [_]) (q := 2) Y4 rfl).1
            refine bodyPost_ret (v := .tuple #[.agg #[.int .i64 fm, .int .i64 fk, .slice (some ⟨g, 0, none⟩) m3 c9], .bool true]) (by simp [results, Try.results20, go_sem, f0, f1, f2]) rfl ?_
            exact ⟨_, rs5, rfl, HE5.out, (Rows.right Y4), ((HB5.out.setCell (p := ⟨w.heap.size + 1, 0, none⟩) hbr (.int .i64 fm)).setCell (p := ⟨w.heap.size + 1, 1, none⟩) hbr (.int .i64 fk)).setCell (p := ⟨w.heap.size + 1, 2, none⟩) hbr (.slice (some ⟨g, 0, none⟩) m3 c9)⟩
end Go.Proofs.Ytoiagfdhanhnkaa
