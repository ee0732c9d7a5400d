/-
  FILES: WriteLines of the model. By gen_f13.py.
-/
import Derived.Test.YtoiagfdhanhnkaaF12
namespace Go.Proofs.Ytoiagfdhanhnkaa
open Go.RowKit Nm
set_option linter.unusedSimpArgs false
set_option linter.unusedVariables false

theorem linesG_step {d e : Fil} {l : TxtL} {k : Nat} {x : List UInt8} (h : linesG d (l.take k) = some e) (hx : l[k]? = some x) : linesG d (l.take (k + 1)) = writeX e x := by
  rw [List.take_add_one, hx]
  show linesG d (l.take k ++ [x]) = _
  rw [linesG_snoc, h]; rfl
theorem linesG_dead {d : Fil} {l : TxtL} {k : Nat} (h : linesG d (l.take k) = none) : linesG d l = none := by
  have e : l = l.take k ++ l.drop k := (List.take_append_drop k l).symm
  rw [e, linesG_app, h]; rfl
theorem linesX_dead {d : Fil} {l : TxtL} (h : linesG d l = none) : linesX d l = none := by unfold linesX; rw [h]; split <;> rfl
theorem linesX_at {d : Fil} {l : TxtL} (hz : filOk d = true) (hl : linesOk l = true) : linesX d l = linesG d l := by unfold linesX; rw [hz, hl]; rfl
theorem writeX_at {e : Fil} {x : List UInt8} (he : filOk e = true) (hx : lineOk x = true) : writeX e x = if filOk (writeF e x) then some (writeF e x) else none := by unfold writeX; rw [he, hx]; rfl
theorem line_at {l : TxtL} (h : linesOk l = true) {x : List UInt8} (hx : x ∈ l) : lineOk x = true := by
  unfold linesOk at h; simp only [Bool.and_eq_true, List.all_eq_true] at h; exact h.1 x hx

set_option maxHeartbeats 8000000 in
set_option maxRecDepth 100000 in
theorem specWriteLines_c {v v2 : Value} {B : Nat} {d : Fil} {l : TxtL} {w : World} (h : FilIn w B v d) (h2 : StrsIn w B v2 l) (hB : B ≤ w.heap.size) :
    Calls Try.prog 22 #[v, v2] w (FilPostO w (filOr (linesX d l)) (linesX d l).isSome) := by
  obtain ⟨A, n, c, hv⟩ := h.form
  have C1 := hid (fun (w1 : World) (hb : Below w.heap.size w w1) => specValidFiles0_c (h.below hb hB) (Nat.le_trans hB hb.size))
  have C2 := hid (fun (w1 : World) (hb : Below w.heap.size w w1) => validLines_c (h2.below hb hB))
  have HL2 := hid h2
  obtain ⟨u, hu, hin⟩ := h
  obtain ⟨mo, ke, L⟩ := d
  rw [hv] at hu
  have hu2 : u = .slice A n c := by simp at hu; exact hu.symm
  subst hu2
  clear hu
  subst hv
  obtain ⟨Al, cl, rfl, hlc, hlm⟩ := h2.1.form
  unfold maxLen at hlm
  show Calls Try.prog 22 #[.agg #[.int .i64 mo, .int .i64 ke, .slice A n c], .slice Al l.length cl] w _
  have hl20 := h2.2.1
  unfold maxTxt at hl20
  have HX := hid (show linesX ⟨mo, ke, L⟩ l = if filOk ⟨mo, ke, L⟩ && linesOk l then linesG ⟨mo, ke, L⟩ l else none from rfl)
  generalize hX : linesX ⟨mo, ke, L⟩ l = X at *
  replace hX := hid hX
  generalize hll : l.length = nl at *
  replace hll := hid hll
  have HR2 := hid (two_boxes w mo ke A n c)
  have HB2 := hid (two_below w mo ke A n c)
  have hbr : w.heap.size ≤ w.heap.size + 1 := by omega
  clear h2
  cases hz : filOk ⟨mo, ke, L⟩ with
  | false =>
    rw [hz] at C1 HX
    obtain rfl : X = none := HX.out
    clear C2 HX hz hin
    go_enter Try.func22, Try.ntmps22
    go_wp2_with fail
    refine (C1.out _ HB2.out).mono ?_
    rintro e w1 ⟨rfl, hb⟩
    replace HR2 := hid (HR2.out.below hb)
    replace HB2 := hid (HB2.out.trans (hb.mono HB2.out.size))
    clear hb C1
    obtain ⟨r0, x0, _⟩ := Rows.bcell2 (pre := []) (q := 0) HR2.out rfl
    obtain ⟨r1, x1, _⟩ := Rows.bcell2 (pre := []) (q := 1) HR2.out rfl
    obtain ⟨r2, x2, _⟩ := Rows.bcell2 (pre := []) (q := 2) HR2.out rfl
    go_wp2_with fail
    have Y2 := Rows.boxset (pre := []) (j := 0) (u := .int .i64 0) HR2.out
    have Y3 := Rows.boxset (pre := []) (j := 1) (u := .int .i64 0) Y2
    have Y4 := Rows.boxset (pre := []) (j := 2) (u := .slice none 0 0) Y3
    have f0 := (Rows.bcell2 (pre := []) (q := 0) Y4 rfl).1
    have f1 := (Rows.bcell2 (pre := []) (q := 1) Y4 rfl).1
    have f2 := (Rows.bcell2 (pre := []) (q := 2) Y4 rfl).1
    refine bodyPost_ret (v := .tuple #[.agg #[.int .i64 0, .int .i64 0, .slice none 0 0], .bool false]) (by simp [results, Try.results22, go_sem, f0, f1, f2]) rfl ?_
    obtain ⟨rs, h1, h2⟩ := zero_fil
    exact ⟨_, rs, rfl, h1, h2, ((HB2.out.setCell (p := ⟨w.heap.size + 1, 0, none⟩) hbr (.int .i64 0)).setCell (p := ⟨w.heap.size + 1, 1, none⟩) hbr (.int .i64 0)).setCell (p := ⟨w.heap.size + 1, 2, none⟩) hbr (.slice none 0 0)⟩
  | true =>
    rw [hz] at C1 HX
    cases hq : linesOk l with
    | false =>
      rw [hq] at C2 HX
      obtain rfl : X = none := HX.out
      clear HX hq hin hz
      go_enter Try.func22, Try.ntmps22
      go_wp2_with fail
      refine (C1.out _ HB2.out).mono ?_
      rintro e w1 ⟨rfl, hb⟩
      replace HR2 := hid (HR2.out.below hb)
      replace HB2 := hid (HB2.out.trans (hb.mono HB2.out.size))
      clear hb C1
      obtain ⟨r0, x0, _⟩ := Rows.bcell2 (pre := []) (q := 0) HR2.out rfl
      obtain ⟨r1, x1, _⟩ := Rows.bcell2 (pre := []) (q := 1) HR2.out rfl
      obtain ⟨r2, x2, _⟩ := Rows.bcell2 (pre := []) (q := 2) HR2.out rfl
      go_wp2_with (go_at_call 58; refine (C2.out _ HB2.out).mono ?_; rintro e w' ⟨rfl, rfl⟩)
      have Y2 := Rows.boxset (pre := []) (j := 0) (u := .int .i64 0) HR2.out
      have Y3 := Rows.boxset (pre := []) (j := 1) (u := .int .i64 0) Y2
      have Y4 := Rows.boxset (pre := []) (j := 2) (u := .slice none 0 0) Y3
      have f0 := (Rows.bcell2 (pre := []) (q := 0) Y4 rfl).1
      have f1 := (Rows.bcell2 (pre := []) (q := 1) Y4 rfl).1
      have f2 := (Rows.bcell2 (pre := []) (q := 2) Y4 rfl).1
      refine bodyPost_ret (v := .tuple #[.agg #[.int .i64 0, .int .i64 0, .slice none 0 0], .bool false]) (by simp [results, Try.results22, go_sem, f0, f1, f2]) rfl ?_
      obtain ⟨rs, h1, h2⟩ := zero_fil
      exact ⟨_, rs, rfl, h1, h2, ((HB2.out.setCell (p := ⟨w.heap.size + 1, 0, none⟩) hbr (.int .i64 0)).setCell (p := ⟨w.heap.size + 1, 1, none⟩) hbr (.int .i64 0)).setCell (p := ⟨w.heap.size + 1, 2, none⟩) hbr (.slice none 0 0)⟩
    | true =>
      rw [hq] at C2 HX
      replace HX := hid (show X = linesG ⟨mo, ke, L⟩ l from HX.out)
      have hpt := fil_parts hz
      have hsm := fil_small hz
      have hln : L.length = n := NestIn.count hin.1
      have hl4 : L.length ≤ 4 := hsm.1
      have C3 := hid (fun (w1 : World) (hb : Below w.heap.size w w1) => specCopyLists_c (hin.below hb hB) (Nat.le_trans hB hb.size) (by omega))
      have HLN := hid hln
      have HOK := hid hz
      have HQL := hid hq
      have hnl : nl ≤ 12 := by have := (lines_len hq).1; have h9 := hll.out; omega
      rw [hln] at hl4
      clear hpt hsm hin hln hz hq
      go_enter Try.func22, Try.ntmps22
      go_wp2_with fail
      refine (C1.out _ HB2.out).mono ?_
      rintro e w1 ⟨rfl, hb⟩
      replace HR2 := hid (HR2.out.below hb)
      replace HB2 := hid (HB2.out.trans (hb.mono HB2.out.size))
      clear hb C1
      have hw1 : w.heap.size < w1.heap.size := (Rows.bc HR2.out.right 0 rfl).2
      have hw2 : w.heap.size + 1 < w1.heap.size := (Rows.bc HR2.out.left 0 rfl).2
      go_wp2_with (go_at_call 58; refine (C2.out _ HB2.out).mono ?_; rintro e w' ⟨rfl, rfl⟩)
      rename World => w1
      go_cut [6] from 7 (fun s6 wc => ∃ (bo : Nat) (A2 : Option Addr) (n2 c2 : Nat) (rs : List Row), s6 = .pointer (some ⟨bo, 0, none⟩) ∧ w1.heap.size ≤ bo ∧ Hid (FilR rs (.agg #[.int .i64 mo, .int .i64 ke, .slice A2 n2 c2]) ⟨mo, ke, L⟩) ∧ Hid (Rows wc w.heap.size ([bxRow 26 3 bo [.int .i64 mo, .int .i64 ke, .slice A2 n2 c2]] ++ ([bxRow 26 3 (w.heap.size + 1) [.int .i64 0, .int .i64 0, .slice none 0 0]] ++ (rs ++ [bxRow 26 3 w.heap.size [.int .i64 mo, .int .i64 ke, .slice A n c]])))) ∧ Hid (Below w.heap.size w wc))
      case first =>
        have p0 := (Rows.bc HR2.out.right 0 rfl).1
        have p1 := (Rows.bc HR2.out.right 1 rfl).1
        have p2 := (Rows.bc HR2.out.right 2 rfl).1
        refine wp_region_held_drew (S := (fun w' : World => w'.cell? ⟨w.heap.size, 0, none⟩ = some (.int .i64 mo) ∧ w'.cell? ⟨w.heap.size, 1, none⟩ = some (.int .i64 ke) ∧ w'.cell? ⟨w.heap.size, 2, none⟩ = some (.slice A n c))) (by kernel_rfl) ⟨p0, p1, p2⟩ (fun hS => ?_)
        refine wpAnyH_take (i := 0) (oi := ?oi101) (v := ?v101) ?hi101 (by kernel_rfl) ?hf101 ?hr101 ?hQ101 (Or.inl ⟨?hw101, ?hy101⟩) (by assumption) ?rest101
        case hi101 => simp only [List.getElem?_toArray, List.getElem?_cons_succ, List.getElem?_cons_zero]; rfl
        case hf101 => kernel_rfl
        case hr101 => kernel_rfl
        case hw101 => rfl
        case hy101 => (intro w hSw; (try dsimp only at hSw); go_simp; all_goals (first | done | with_reducible rfl))
        case hQ101 => exact fun _ _ _ h => h
        simp only [Act.put, List.setIfInBounds_toArray, List.set_cons_zero, List.set_cons_succ]
        refine wpAnyH_take (i := 1) (oi := ?oi102) (v := ?v102) ?hi102 (by kernel_rfl) ?hf102 ?hr102 ?hQ102 (Or.inl ⟨?hw102, ?hy102⟩) (by assumption) ?rest102
        case hi102 => simp only [List.getElem?_toArray, List.getElem?_cons_succ, List.getElem?_cons_zero]; rfl
        case hf102 => kernel_rfl
        case hr102 => kernel_rfl
        case hw102 => rfl
        case hy102 => (intro w hSw; (try dsimp only at hSw); go_simp; all_goals (first | done | with_reducible rfl))
        case hQ102 => exact fun _ _ _ h => h
        simp only [Act.put, List.setIfInBounds_toArray, List.set_cons_zero, List.set_cons_succ]
        refine wpAnyH_take (i := 2) (oi := ?oi103) (v := ?v103) ?hi103 (by kernel_rfl) ?hf103 ?hr103 ?hQ103 (Or.inl ⟨?hw103, ?hy103⟩) (by assumption) ?rest103
        case hi103 => simp only [List.getElem?_toArray, List.getElem?_cons_succ, List.getElem?_cons_zero]; rfl
        case hf103 => kernel_rfl
        case hr103 => kernel_rfl
        case hw103 => rfl
        case hy103 => (intro w hSw; (try dsimp only at hSw); go_simp; all_goals (first | done | with_reducible rfl))
        case hQ103 => exact fun _ _ _ h => h
        simp only [Act.put, List.setIfInBounds_toArray, List.set_cons_zero, List.set_cons_succ]
        refine wpAnyH_take (i := 3) (oi := ?oi104) (v := ?v104) ?hi104 (by kernel_rfl) ?hf104 ?hr104 ?hQ104 (Or.inl ⟨?hw104, ?hy104⟩) (by assumption) ?rest104
        case hi104 => simp only [List.getElem?_toArray, List.getElem?_cons_succ, List.getElem?_cons_zero]; rfl
        case hf104 => kernel_rfl
        case hr104 => kernel_rfl
        case hw104 => rfl
        case hy104 => (intro w hSw; (try dsimp only at hSw); go_simp; all_goals (first | done | with_reducible rfl))
        case hQ104 => exact fun _ _ _ h => h
        simp only [Act.put, List.setIfInBounds_toArray, List.set_cons_zero, List.set_cons_succ]
        refine wpAnyH_take (i := 4) (oi := ?oi105) (v := ?v105) ?hi105 (by kernel_rfl) ?hf105 ?hr105 ?hQ105 (Or.inl ⟨?hw105, ?hy105⟩) (by assumption) ?rest105
        case hi105 => simp only [List.getElem?_toArray, List.getElem?_cons_succ, List.getElem?_cons_zero]; rfl
        case hf105 => kernel_rfl
        case hr105 => kernel_rfl
        case hw105 => rfl
        case hy105 => (intro w hSw; (try dsimp only at hSw); go_simp; all_goals (first | done | with_reducible rfl))
        case hQ105 => exact fun _ _ _ h => h
        simp only [Act.put, List.setIfInBounds_toArray, List.set_cons_zero, List.set_cons_succ]
        refine wpAnyH_take (i := 5) (oi := ?oi106) (v := ?v106) ?hi106 (by kernel_rfl) ?hf106 ?hr106 ?hQ106 (Or.inl ⟨?hw106, ?hy106⟩) (by assumption) ?rest106
        case hi106 => simp only [List.getElem?_toArray, List.getElem?_cons_succ, List.getElem?_cons_zero]; rfl
        case hf106 => kernel_rfl
        case hr106 => kernel_rfl
        case hw106 => rfl
        case hy106 => (intro w hSw; (try dsimp only at hSw); go_simp; all_goals (first | done | with_reducible rfl))
        case hQ106 => exact fun _ _ _ h => h
        simp only [Act.put, List.setIfInBounds_toArray, List.set_cons_zero, List.set_cons_succ]
        refine wpAnyH_ready (rs := [6, 8]) (by kernel_rfl) (by simp) ?_
        refine AllReadyH.cons (o := ?oi107) ?hi107 (fun K hK => ?stepA107) (AllReadyH.cons (o := ?oj107) ?hj107 (fun K hK => ?stepB107) AllReadyH.nil)
        case hi107 => simp only [List.getElem?_toArray, List.getElem?_cons_succ, List.getElem?_cons_zero]; rfl
        case hj107 => simp only [List.getElem?_toArray, List.getElem?_cons_succ, List.getElem?_cons_zero]; rfl
        all_goals rw [if_pos (by rfl)]
        all_goals go_simp
        · go_at_call 46
          refine (C3.out _ HB2.out.drew).mono ?_
          rintro e w2 ⟨u2, rs2, rfl, hs2, hr2, hb2⟩
          obtain ⟨A2, c2, rfl, _, _⟩ := (NestR.own_ hs2 hr2).form
          obtain ⟨es2, rfl, hne2⟩ := hs2.ne
          rw [HLN.out] at hr2
          rw [show L.length = n from HLN.out]
          have HR3 := hid (HR2.out.dr.newer hb2 hr2 HB2.out.size)
          have HB3 := hid (HB2.out.drew.trans (hb2.mono HB2.out.size))
          have HE := hid hne2
          have hsz2 : w1.heap.size ≤ w2.heap.size := hb2.size
          clear hs2 hr2 hb2 hne2 p0 p1 p2
          have p0 := (Rows.bc HR3.out.right.right 0 rfl).1
          have p1 := (Rows.bc HR3.out.right.right 1 rfl).1
          have p2 := (Rows.bc HR3.out.right.right 2 rfl).1
          refine hK.out _ _ ⟨p0, p1, p2⟩ (fun hS9 => ?_)
          refine wpAnyH_take (i := 7) (oi := ?oi108) (v := ?v108) ?hi108 (by kernel_rfl) ?hf108 ?hr108 ?hQ108 (Or.inl ⟨?hw108, ?hy108⟩) (by assumption) ?rest108
          case hi108 => simp only [List.getElem?_toArray, List.getElem?_cons_succ, List.getElem?_cons_zero]; rfl
          case hf108 => kernel_rfl
          case hr108 => kernel_rfl
          case hw108 => rfl
          case hy108 => (intro w hSw; (try dsimp only at hSw); go_simp; all_goals (first | done | with_reducible rfl))
          case hQ108 => exact fun _ _ _ h => h
          simp only [Act.put, List.setIfInBounds_toArray, List.set_cons_zero, List.set_cons_succ]
          refine wpAnyH_ready (rs := [8]) (by kernel_rfl) (by simp) ?_
          refine AllReadyH.cons (o := ?oi109) ?hi109 (fun K hK => ?step109) AllReadyH.nil
          case hi109 => simp only [List.getElem?_toArray, List.getElem?_cons_succ, List.getElem?_cons_zero]; rfl
          rw [if_pos (by rfl)]
          go_simp
          have HR4 := hid (HR3.out.bx HB3.out.size #[.int .i64 0, .int .i64 0, .slice none 0 0] 26 3 rfl)
          have HB4 := hid (HB3.out.alloc HB3.out.size (.cells #[.int .i64 0, .int .i64 0, .slice none 0 0] 26))
          have hbo : w1.heap.size ≤ w2.heap.size := hsz2
          have hbo2 : w.heap.size ≤ w2.heap.size := by omega
          have ne1 : w2.heap.size ≠ w.heap.size := by omega
          clear p0 p1 p2
          have p0 := (Rows.bc HR4.out.right.right.right 0 rfl).1
          have p1 := (Rows.bc HR4.out.right.right.right 1 rfl).1
          have p2 := (Rows.bc HR4.out.right.right.right 2 rfl).1
          refine hK.out _ _ ⟨p0, p1, p2⟩ (fun hS9 => ?_)
          generalize w2.alloc (.cells #[.int .i64 0, .int .i64 0, .slice none 0 0] 26) = w3 at *
          generalize w2.heap.size = bo at *
          obtain ⟨z0c, z0, _⟩ := Rows.bcell2 (pre := []) (q := 0) HR4.out rfl
          obtain ⟨z1c, z1, _⟩ := Rows.bcell2 (pre := []) (q := 1) HR4.out rfl
          obtain ⟨z2c, z2, _⟩ := Rows.bcell2 (pre := []) (q := 2) HR4.out rfl
          refine wpAnyH_ready (rs := [9]) (by kernel_rfl) (by simp) ?_
          refine AllReadyH.cons (o := ?oi110) ?hi110 (fun K hK => ?step110) AllReadyH.nil
          case hi110 => simp only [List.getElem?_toArray, List.getElem?_cons_succ, List.getElem?_cons_zero]; rfl
          rw [if_pos (by rfl)]
          go_simp
          have far : ∀ (W : World) (q q' : Nat) (u u' : Value), W.cell? ⟨w.heap.size, q, none⟩ = some u → (W.setCell ⟨bo, q', none⟩ u').cell? ⟨w.heap.size, q, none⟩ = some u := fun W q q' u u' h => (World.cell?_setCell_far _ _ _ _ ne1).trans h
          refine hK.out _ _ ⟨far _ _ _ _ _ (far _ _ _ _ _ (far _ _ _ _ _ p0)), far _ _ _ _ _ (far _ _ _ _ _ (far _ _ _ _ _ p1)), far _ _ _ _ _ (far _ _ _ _ _ (far _ _ _ _ _ p2))⟩ (fun hS9 => ?_)
          refine wpAnyH_done (by kernel_rfl) ?_ _
          clear far hS hS9 p0 p1 p2 z0c z1c z2c z0 z1 z2
          have Y0 := Rows.boxset (pre := []) (j := 0) (u := .int .i64 mo) HR4.out
          have Y1 := Rows.boxset (pre := []) (j := 1) (u := .int .i64 ke) Y0
          have Y2 := hid (Rows.boxset (pre := []) (j := 2) (u := .slice A2 n c2) Y1)
          clear Y0 Y1
          go_wp2_with fail
          go_meet
          case rel => exact ⟨_, A2, n, c2, nestRows 35 (.slice A2 n c2) es2, rfl, hbo, ⟨_, rfl, HE.out.toR⟩, Y2.out.perm (List.Perm.append_left _ (by simpa only [List.append_assoc] using (List.perm_append_comm_assoc _ _ _))), ((HB4.out.setCell (p := ⟨_, 0, none⟩) hbo2 (.int .i64 mo)).setCell (p := ⟨_, 1, none⟩) hbo2 (.int .i64 ke)).setCell (p := ⟨_, 2, none⟩) hbo2 (.slice A2 n c2)⟩
        · have HR3 := hid (HR2.out.dr.bx HB2.out.size #[.int .i64 0, .int .i64 0, .slice none 0 0] 26 3 rfl)
          have HB3 := hid (HB2.out.drew.alloc HB2.out.size (.cells #[.int .i64 0, .int .i64 0, .slice none 0 0] 26))
          simp only [show w1.drew.heap.size = w1.heap.size from rfl] at HR3 HB3
          clear p0 p1 p2
          have p0 := (Rows.bc HR3.out.right.right 0 rfl).1
          have p1 := (Rows.bc HR3.out.right.right 1 rfl).1
          have p2 := (Rows.bc HR3.out.right.right 2 rfl).1
          refine hK.out _ _ ⟨p0, p1, p2⟩ (fun hS9 => ?_)
          refine wpAnyH_ready (rs := [6]) (by kernel_rfl) (by simp) ?_
          refine AllReadyH.cons (o := ?oi111) ?hi111 (fun K hK => ?step111) AllReadyH.nil
          case hi111 => simp only [List.getElem?_toArray, List.getElem?_cons_succ, List.getElem?_cons_zero]; rfl
          rw [if_pos (by rfl)]
          go_simp
          go_at_call 46
          refine (C3.out _ HB3.out).mono ?_
          rintro e w2 ⟨u2, rs2, rfl, hs2, hr2, hb2⟩
          obtain ⟨A2, c2, rfl, _, _⟩ := (NestR.own_ hs2 hr2).form
          obtain ⟨es2, rfl, hne2⟩ := hs2.ne
          rw [HLN.out] at hr2
          rw [show L.length = n from HLN.out]
          have HR4 := hid ((HR3.out.newer hb2 hr2 HB3.out.size).perm (List.perm_append_comm_assoc _ _ _))
          have HB4 := hid (HB3.out.trans (hb2.mono HB3.out.size))
          have HE := hid hne2
          have hbo : w1.heap.size ≤ w1.heap.size := Nat.le_refl _
          have hbo2 : w.heap.size ≤ w1.heap.size := by omega
          have ne1 : w1.heap.size ≠ w.heap.size := by omega
          clear hs2 hr2 hb2 hne2 p0 p1 p2
          have p0 := (Rows.bc HR4.out.right.right.right 0 rfl).1
          have p1 := (Rows.bc HR4.out.right.right.right 1 rfl).1
          have p2 := (Rows.bc HR4.out.right.right.right 2 rfl).1
          refine hK.out _ _ ⟨p0, p1, p2⟩ (fun hS9 => ?_)
          refine wpAnyH_take (i := 7) (oi := ?oi112) (v := ?v112) ?hi112 (by kernel_rfl) ?hf112 ?hr112 ?hQ112 (Or.inl ⟨?hw112, ?hy112⟩) (by assumption) ?rest112
          case hi112 => simp only [List.getElem?_toArray, List.getElem?_cons_succ, List.getElem?_cons_zero]; rfl
          case hf112 => kernel_rfl
          case hr112 => kernel_rfl
          case hw112 => rfl
          case hy112 => (intro w hSw; (try dsimp only at hSw); go_simp; all_goals (first | done | with_reducible rfl))
          case hQ112 => exact fun _ _ _ h => h
          simp only [Act.put, List.setIfInBounds_toArray, List.set_cons_zero, List.set_cons_succ]
          generalize hbv : w1.heap.size = bo at *
          obtain ⟨z0c, z0, _⟩ := Rows.bcell2 (pre := []) (q := 0) HR4.out rfl
          obtain ⟨z1c, z1, _⟩ := Rows.bcell2 (pre := []) (q := 1) HR4.out rfl
          obtain ⟨z2c, z2, _⟩ := Rows.bcell2 (pre := []) (q := 2) HR4.out rfl
          refine wpAnyH_ready (rs := [9]) (by kernel_rfl) (by simp) ?_
          refine AllReadyH.cons (o := ?oi113) ?hi113 (fun K hK => ?step113) AllReadyH.nil
          case hi113 => simp only [List.getElem?_toArray, List.getElem?_cons_succ, List.getElem?_cons_zero]; rfl
          rw [if_pos (by rfl)]
          go_simp
          have far : ∀ (W : World) (q q' : Nat) (u u' : Value), W.cell? ⟨w.heap.size, q, none⟩ = some u → (W.setCell ⟨bo, q', none⟩ u').cell? ⟨w.heap.size, q, none⟩ = some u := fun W q q' u u' h => (World.cell?_setCell_far _ _ _ _ ne1).trans h
          refine hK.out _ _ ⟨far _ _ _ _ _ (far _ _ _ _ _ (far _ _ _ _ _ p0)), far _ _ _ _ _ (far _ _ _ _ _ (far _ _ _ _ _ p1)), far _ _ _ _ _ (far _ _ _ _ _ (far _ _ _ _ _ p2))⟩ (fun hS9 => ?_)
          refine wpAnyH_done (by kernel_rfl) ?_ _
          clear far hS hS9 p0 p1 p2 z0c z1c z2c z0 z1 z2
          have Y0 := Rows.boxset (pre := []) (j := 0) (u := .int .i64 mo) HR4.out
          have Y1 := Rows.boxset (pre := []) (j := 1) (u := .int .i64 ke) Y0
          have Y2 := hid (Rows.boxset (pre := []) (j := 2) (u := .slice A2 n c2) Y1)
          clear Y0 Y1
          go_wp2_with fail
          go_meet
          case rel => exact ⟨_, A2, n, c2, nestRows 35 (.slice A2 n c2) es2, rfl, hbo, ⟨_, rfl, HE.out.toR⟩, Y2.out.perm (List.Perm.append_left _ (by simpa only [List.append_assoc] using (List.perm_append_comm_assoc _ _ _))), ((HB4.out.setCell (p := ⟨_, 0, none⟩) hbo2 (.int .i64 mo)).setCell (p := ⟨_, 1, none⟩) hbo2 (.int .i64 ke)).setCell (p := ⟨_, 2, none⟩) hbo2 (.slice A2 n c2)⟩
      case rest =>
        clear HR2 HB2
        obtain ⟨bo, A2, n2, c2, rs, rfl, hbo, HE, HR, HB⟩ := hcut
        rename World => wc
        have hbo2 : w.heap.size ≤ bo := by omega
        clear C2 C3
        go_wp2_with fail
        go_loopw [7] (fun iv wr => ∃ (k : Nat) (e : Fil) (A2 : Option Addr) (n2 c2 : Nat) (rs : List Row), iv = .int .i64 k ∧ k ≤ nl ∧ Hid (linesG ⟨mo, ke, L⟩ (l.take k) = some e ∧ filOk e = true) ∧ Hid (FilR rs (.agg #[.int .i64 e.mo, .int .i64 e.ke, .slice A2 n2 c2]) e) ∧ Hid (Rows wr w.heap.size ([bxRow 26 3 bo [.int .i64 e.mo, .int .i64 e.ke, .slice A2 n2 c2]] ++ ([bxRow 26 3 (w.heap.size + 1) [.int .i64 0, .int .i64 0, .slice none 0 0]] ++ (rs ++ [bxRow 26 3 w.heap.size [.int .i64 mo, .int .i64 ke, .slice A n c]])))) ∧ Hid (Below w.heap.size w wr)) (fun iv _ => nl - (intOf iv).toNat)
        case atStart => exact ⟨0, ⟨mo, ke, L⟩, A2, n2, c2, rs, rfl, Nat.zero_le _, ⟨by rw [List.take_zero]; rfl, HOK.out⟩, HE.out, HR.out, HB.out⟩
        case round =>
          clear HE HR HB
          rename World => wr
          obtain ⟨k, e, A3, n3, c3, rs3, rfl, hk, HG, HE, HR, HB⟩ := hrel
          obtain ⟨em, ek, el⟩ := e
          have HE' : Hid (FilR rs3 (.agg #[.int .i64 em, .int .i64 ek, .slice A3 n3 c3]) ⟨em, ek, el⟩) := HE
          have HR' : Hid (Rows wr w.heap.size ([bxRow 26 3 bo [.int .i64 em, .int .i64 ek, .slice A3 n3 c3]] ++ ([bxRow 26 3 (w.heap.size + 1) [.int .i64 0, .int .i64 0, .slice none 0 0]] ++ (rs3 ++ [bxRow 26 3 w.heap.size [.int .i64 mo, .int .i64 ke, .slice A n c]])))) := HR
          clear HE HR
          by_cases hlt : k < nl
          · obtain ⟨b, ob, px, rfl, hbB, hx, c0⟩ := (show Sl wr B 1 nl (.slice Al nl cl) (l.map txt) by have := ((HL2.out.below HB.out hB).1); rwa [hll.out] at this).text hlt
            have hpx := line_at HQL.out (List.mem_of_getElem? hx)
            have hpz : px.size ≤ 1048576 := by have := line_len hpx; rw [← Lib.size_eq] at this; omega
            have C5 := hid (fun (W : World) (v : Value) (h : FilIn W W.heap.size v ⟨em, ek, el⟩) => specWrite_c px hpz h (Nat.le_refl _) HG.out.2)
            have C6 := hid (fun (W : World) (v : Value) (h : FilIn W W.heap.size v (writeF ⟨em, ek, el⟩ px.data.toList)) => specValidFiles0_c h (Nat.le_refl _))
            have HWF := hid (write_fit (x := px.data.toList) HG.out.2 (by rw [← Lib.size_eq]; exact hpz))
            have HST := hid ((linesG_step HG.out.1 hx).trans (writeX_at HG.out.2 hpx))
            have HEF := hid (fil_fit HG.out.2)
            have d0 := (Rows.bc HR'.out.left 0 rfl).1
            have d1 := (Rows.bc HR'.out.left 1 rfl).1
            have d2 := (Rows.bc HR'.out.left 2 rfl).1
            have hbne : bo ≠ b := by omega
            have hbw : b < wr.heap.size := by have := HB.out.size; omega
            have hlt' : (k : Int) < (nl : Int) := by omega
            clear hx hpx hpz
            go_wp2_with fail
            refine wp_region_let 5 (fun w' : World => w'.cell? ⟨b, ob + k, none⟩ = some (.string px)) (fun w' : World => w'.cell? ⟨bo, 0, none⟩ = some (.int .i64 em) ∧ w'.cell? ⟨bo, 1, none⟩ = some (.int .i64 ek) ∧ w'.cell? ⟨bo, 2, none⟩ = some (.slice A3 n3 c3)) (by kernel_rfl) c0 ⟨d0, d1, d2⟩ (fun hS => ?_)
            refine wpAnyL_take1 (i := 0) (oi := ?oi114) (om := ?om114) (v := ?v114) ?hi114 (by kernel_rfl) ?hf114 ?hr114 (by decide) ?hm114 ?hd114 (by rfl) ?hQ114 (Or.inl ⟨?hw114, ?hy114⟩) (⟨hS.1, fun h => hS.2 (by first | rfl | exact h)⟩) ?rest114
            case hi114 => simp only [List.getElem?_toArray, List.getElem?_cons_succ, List.getElem?_cons_zero]; rfl
            case hm114 => simp only [List.getElem?_toArray, List.getElem?_cons_succ, List.getElem?_cons_zero]; rfl
            case hd114 => kernel_rfl
            case hf114 => kernel_rfl
            case hr114 => kernel_rfl
            case hw114 => rfl
            case hy114 => (intro w hSw; (try dsimp only at hSw); go_simp; all_goals (first | done | with_reducible rfl))
            case hQ114 => exact fun _ _ _ h => h
            simp only [Act.put, List.setIfInBounds_toArray, List.set_cons_zero, List.set_cons_succ]
            refine wpAnyL_take (i := 1) (oi := ?oi115) (v := ?v115) ?hi115 (by kernel_rfl) ?hf115 ?hr115 (by decide) ?hQ115 (Or.inl ⟨?hw115, ?hy115⟩) (⟨hS.1, fun h => hS.2 (by first | rfl | exact h)⟩) ?rest115
            case hi115 => simp only [List.getElem?_toArray, List.getElem?_cons_succ, List.getElem?_cons_zero]; rfl
            case hf115 => kernel_rfl
            case hr115 => kernel_rfl
            case hw115 => rfl
            case hy115 => (intro w hSw; (try dsimp only at hSw); go_simp; all_goals (first | done | with_reducible rfl))
            case hQ115 => exact fun _ _ _ h => h
            simp only [Act.put, List.setIfInBounds_toArray, List.set_cons_zero, List.set_cons_succ]
            refine wpAnyL_take (i := 2) (oi := ?oi116) (v := ?v116) ?hi116 (by kernel_rfl) ?hf116 ?hr116 (by decide) ?hQ116 (Or.inl ⟨?hw116, ?hy116⟩) (⟨hS.1, fun h => hS.2 (by first | rfl | exact h)⟩) ?rest116
            case hi116 => simp only [List.getElem?_toArray, List.getElem?_cons_succ, List.getElem?_cons_zero]; rfl
            case hf116 => kernel_rfl
            case hr116 => kernel_rfl
            case hw116 => rfl
            case hy116 => (intro w hSw; (try dsimp only at hSw); go_simp; all_goals (first | done | with_reducible rfl))
            case hQ116 => exact fun _ _ _ h => h
            simp only [Act.put, List.setIfInBounds_toArray, List.set_cons_zero, List.set_cons_succ]
            refine wpAnyL_take (i := 3) (oi := ?oi117) (v := ?v117) ?hi117 (by kernel_rfl) ?hf117 ?hr117 (by decide) ?hQ117 (Or.inl ⟨?hw117, ?hy117⟩) (⟨hS.1, fun h => hS.2 (by first | rfl | exact h)⟩) ?rest117
            case hi117 => simp only [List.getElem?_toArray, List.getElem?_cons_succ, List.getElem?_cons_zero]; rfl
            case hf117 => kernel_rfl
            case hr117 => kernel_rfl
            case hw117 => rfl
            case hy117 => (intro w hSw; (try dsimp only at hSw); go_simp; all_goals (first | done | with_reducible rfl))
            case hQ117 => exact fun _ _ _ h => h
            simp only [Act.put, List.setIfInBounds_toArray, List.set_cons_zero, List.set_cons_succ]
            refine wpAnyL_take (i := 4) (oi := ?oi118) (v := ?v118) ?hi118 (by kernel_rfl) ?hf118 ?hr118 (by decide) ?hQ118 (Or.inl ⟨?hw118, ?hy118⟩) (⟨hS.1, fun h => hS.2 (by first | rfl | exact h)⟩) ?rest118
            case hi118 => simp only [List.getElem?_toArray, List.getElem?_cons_succ, List.getElem?_cons_zero]; rfl
            case hf118 => kernel_rfl
            case hr118 => kernel_rfl
            case hw118 => rfl
            case hy118 => (intro w hSw; (try dsimp only at hSw); go_simp; all_goals (first | done | with_reducible rfl))
            case hQ118 => exact fun _ _ _ h => h
            simp only [Act.put, List.setIfInBounds_toArray, List.set_cons_zero, List.set_cons_succ]
            refine wpAnyL_ready (rs := [5]) (by kernel_rfl) (by simp) ?_
            refine AllReadyL.cons (o := ?oi119) ?hi119 (fun K hK => ?step119) AllReadyL.nil
            case hi119 => simp only [List.getElem?_toArray, List.getElem?_cons_succ, List.getElem?_cons_zero]; rfl
            rw [if_pos (by rfl)]
            go_simp
            go_at_call 54
            refine (C5.out _ _ (FilR.at_ HE'.out HR'.out.dr.right.right.left HEF.out)).mono ?_
            rintro e w5 ⟨u5, rs5, rfl, ⟨uu, hu5, hs5⟩, hr5, hb5⟩
            have hu5' : u5 = .agg #[.int .i64 em, .int .i64 ek, uu] := hu5
            subst hu5'
            obtain ⟨A5, n5, c5, rfl⟩ := hs5.form hr5
            have HR5 := hid (((HR'.out.dr.newer hb5 hr5 HB.out.size).perm ((List.perm_append_comm_assoc _ _ _).trans (List.Perm.append_left _ (List.perm_append_comm_assoc _ _ _)))).sub ((List.Sublist.refl _).append ((List.Sublist.refl _).append ((List.Sublist.refl _).append (List.sublist_append_right _ _)))))
            have HB5 := hid (HB.out.drew.trans (hb5.mono HB.out.size))
            have HS5 := hid hs5
            have c5' : w5.cell? ⟨b, ob + k, none⟩ = some (.string px) := (hb5.cell (p := ⟨b, ob + k, none⟩) hbw).trans c0
            clear hu5 hs5 hr5 hb5 d0 d1 d2 HR' HE' C5 HB
            refine hK.out _ _ ⟨c5', fun h => absurd h (by decide)⟩ (fun hS => ?_)
            obtain ⟨o0, x0, _⟩ := Rows.bcell2 (pre := []) (q := 0) HR5.out rfl
            obtain ⟨o1, x1, _⟩ := Rows.bcell2 (pre := []) (q := 1) HR5.out rfl
            obtain ⟨o2, x2, _⟩ := Rows.bcell2 (pre := []) (q := 2) HR5.out rfl
            refine wpAnyL_ready (rs := [6]) (by kernel_rfl) (by simp) ?_
            refine AllReadyL.cons (o := ?oi120) ?hi120 (fun K hK => ?step120) AllReadyL.nil
            case hi120 => simp only [List.getElem?_toArray, List.getElem?_cons_succ, List.getElem?_cons_zero]; rfl
            rw [if_pos (by rfl)]
            go_simp
            have far : ∀ (W : World) (q : Nat) (u u' : Value), W.cell? ⟨b, ob + k, none⟩ = some u → (W.setCell ⟨bo, q, none⟩ u').cell? ⟨b, ob + k, none⟩ = some u := fun W q u u' h => (World.cell?_setCell_far _ _ _ _ hbne).trans h
            refine hK.out _ _ ⟨far _ _ _ _ (far _ _ _ _ (far _ _ _ _ c5')), fun h => absurd h (by decide)⟩ (fun hS => ?_)
            refine wpAnyL_done (by kernel_rfl) ?_ _
            clear far hS c5' c0 o0 o1 o2 x0 x1 x2
            have Y0 := Rows.boxset (pre := []) (j := 0) (u := .int .i64 em) HR5.out
            have Y1 := Rows.boxset (pre := []) (j := 1) (u := .int .i64 ek) Y0
            have HRw := hid (Rows.boxset (pre := []) (j := 2) (u := .slice A5 n5 c5) Y1)
            have HBw := hid (((HB5.out.setCell (p := ⟨bo, 0, none⟩) hbo2 (.int .i64 em)).setCell (p := ⟨bo, 1, none⟩) hbo2 (.int .i64 ek)).setCell (p := ⟨bo, 2, none⟩) hbo2 (.slice A5 n5 c5))
            clear Y0 Y1 HR5 HB5
            generalize ((w5.setCell ⟨bo, 0, none⟩ (.int .i64 em)).setCell ⟨bo, 1, none⟩ (.int .i64 ek)).setCell ⟨bo, 2, none⟩ (.slice A5 n5 c5) = w6 at *
            replace HRw := hid (show Rows w6 w.heap.size ([bxRow 26 3 bo [.int .i64 em, .int .i64 ek, .slice A5 n5 c5]] ++ ([bxRow 26 3 (w.heap.size + 1) [.int .i64 0, .int .i64 0, .slice none 0 0]] ++ (rs5 ++ [bxRow 26 3 w.heap.size [.int .i64 mo, .int .i64 ke, .slice A n c]]))) from HRw.out)
            have HE6 := hid (show FilR rs5 (.agg #[.int .i64 em, .int .i64 ek, .slice A5 n5 c5]) (writeF ⟨em, ek, el⟩ px.data.toList) from ⟨_, rfl, HS5.out⟩)
            have hwm : (writeF ⟨em, ek, el⟩ px.data.toList).mo = em := rfl
            have hwk : (writeF ⟨em, ek, el⟩ px.data.toList).ke = ek := rfl
            generalize writeF ⟨em, ek, el⟩ px.data.toList = F at *
            obtain ⟨fm, fk, fl⟩ := F
            obtain rfl : fm = em := hwm
            obtain rfl : fk = ek := hwk
            clear HS5
            obtain ⟨d0, _, _⟩ := Rows.bcell2 (pre := []) (q := 0) HRw.out rfl
            obtain ⟨d1, _, _⟩ := Rows.bcell2 (pre := []) (q := 1) HRw.out rfl
            obtain ⟨d2, _, _⟩ := Rows.bcell2 (pre := []) (q := 2) HRw.out rfl
            go_wp2_with fail
            refine (C6.out _ _ (FilR.at_ HE6.out HRw.out.right.right.left HWF.out)).mono ?_
            rintro e w7 ⟨rfl, hb⟩
            replace HRw := hid (HRw.out.below hb)
            replace HBw := hid (HBw.out.trans (hb.mono HBw.out.size))
            clear hb d0 d1 d2 C6
            cases hf : filOk ⟨fm, fk, fl⟩ with
            | false =>
              have hXn : X = none := by
                rw [HX.out]
                refine linesG_dead (k := k + 1) ?_
                rw [HST.out, hf]; rfl
              subst hXn
              clear hf
              obtain ⟨r0, x0, _⟩ := Rows.bcell2 (pre := [_]) (q := 0) HRw.out rfl
              obtain ⟨r1, x1, _⟩ := Rows.bcell2 (pre := [_]) (q := 1) HRw.out rfl
              obtain ⟨r2, x2, _⟩ := Rows.bcell2 (pre := [_]) (q := 2) HRw.out rfl
              go_wp2_with fail
              have Y2 := Rows.boxset (pre := [_]) (j := 0) (u := .int .i64 0) HRw.out
              have Y3 := Rows.boxset (pre := [_]) (j := 1) (u := .int .i64 0) Y2
              have Y4 := Rows.boxset (pre := [_]) (j := 2) (u := .slice none 0 0) Y3
              have f0 := (Rows.bcell2 (pre := [_]) (q := 0) Y4 rfl).1
              have f1 := (Rows.bcell2 (pre := [_]) (q := 1) Y4 rfl).1
              have f2 := (Rows.bcell2 (pre := [_]) (q := 2) Y4 rfl).1
              refine bodyPost_ret (v := .tuple #[.agg #[.int .i64 0, .int .i64 0, .slice none 0 0], .bool false]) (by simp [results, Try.results22, go_sem, f0, f1, f2]) rfl ?_
              obtain ⟨rs, h1, h2⟩ := zero_fil
              exact ⟨_, rs, rfl, h1, h2, ((HBw.out.setCell (p := ⟨w.heap.size + 1, 0, none⟩) hbr (.int .i64 0)).setCell (p := ⟨w.heap.size + 1, 1, none⟩) hbr (.int .i64 0)).setCell (p := ⟨w.heap.size + 1, 2, none⟩) hbr (.slice none 0 0)⟩
            | true =>
              have HST2 := hid (show linesG ⟨mo, ke, L⟩ (l.take (k + 1)) = some ⟨fm, fk, fl⟩ by rw [HST.out, hf]; rfl)
              have HF := hid hf
              clear hf
              go_wp2_with fail
              go_roundw
              case rel => exact ⟨k + 1, ⟨fm, fk, fl⟩, A5, n5, c5, rs5, by go_num, by omega, ⟨HST2.out, HF.out⟩, HE6.out, HRw.out, HBw.out⟩
              case measure => simp [intOf]; omega
          · obtain rfl : k = nl := by omega
            have hXe : X = some ⟨em, ek, el⟩ := by
              rw [HX.out]
              have := HG.out.1
              rwa [List.take_of_length_le (by rw [hll.out]; exact Nat.le_refl _)] at this
            subst hXe
            obtain ⟨o0, _, _⟩ := Rows.bcell2 (pre := []) (q := 0) HR'.out rfl
            obtain ⟨o1, _, _⟩ := Rows.bcell2 (pre := []) (q := 1) HR'.out rfl
            obtain ⟨o2, _, _⟩ := Rows.bcell2 (pre := []) (q := 2) HR'.out rfl
            obtain ⟨r0, x0, _⟩ := Rows.bcell2 (pre := [_]) (q := 0) HR'.out rfl
            obtain ⟨r1, x1, _⟩ := Rows.bcell2 (pre := [_]) (q := 1) HR'.out rfl
            obtain ⟨r2, x2, _⟩ := Rows.bcell2 (pre := [_]) (q := 2) HR'.out rfl
            go_wp2_with fail
            have Y2 := Rows.boxset (pre := [_]) (j := 0) (u := .int .i64 em) HR'.out
            have Y3 := Rows.boxset (pre := [_]) (j := 1) (u := .int .i64 ek) Y2
            have Y4 := Rows.boxset (pre := [_]) (j := 2) (u := .slice A3 n3 c3) Y3
            have f0 := (Rows.bcell2 (pre := [_]) (q := 0) Y4 rfl).1
            have f1 := (Rows.bcell2 (pre := [_]) (q := 1) Y4 rfl).1
            have f2 := (Rows.bcell2 (pre := [_]) (q := 2) Y4 rfl).1
            refine bodyPost_ret (v := .tuple #[.agg #[.int .i64 em, .int .i64 ek, .slice A3 n3 c3], .bool true]) (by simp [results, Try.results22, go_sem, f0, f1, f2]) rfl ?_
            exact ⟨_, rs3, rfl, HE'.out, (Rows.right Y4).left, ((HB.out.setCell (p := ⟨w.heap.size + 1, 0, none⟩) hbr (.int .i64 em)).setCell (p := ⟨w.heap.size + 1, 1, none⟩) hbr (.int .i64 ek)).setCell (p := ⟨w.heap.size + 1, 2, none⟩) hbr (.slice A3 n3 c3)⟩
end Go.Proofs.Ytoiagfdhanhnkaa
