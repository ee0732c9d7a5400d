/-
  WARNINGS CAPTURED: CaptureWarnings of the model. By gen_cp2.py.
-/
import Derived.Test.YtlifaeleoiodkaaGreatDoorCP1
namespace Go.Proofs.YtlifaeleoiodkaaGreatDoor
open Go.RowKit Go.Proofs.YtlifaeleoiodkaaGreatDoor.Nm
set_option linter.unusedSimpArgs false
set_option linter.unusedVariables false

set_option maxHeartbeats 1000000 in
set_option maxRecDepth 100000 in
theorem warningRecord_c (ln : Int) (tx md : ByteArray) (w : World) :
    Calls Tryz.prog 37 #[.agg #[.string tx, .string md, .int .i64 ln]] w (fun e w' => e = .returned (.agg #[.string md, .int .i64 30, .string tx, .int .i64 ln]) ∧ Below w.heap.size w w') := by
  go_enter Tryz.func37, Tryz.ntmps37
  go_wp2_with fail
  have K := Blk.new (w.alloc (.cells #[.string tx, .string md, .int .i64 ln] 59)) #[.string md, .int .i64 30, .string tx, .int .i64 ln] 61
  simp only [World.size_alloc] at K
  have f0 := (K.2 0 _ rfl).1
  have f1 := (K.2 1 _ rfl).1
  have f2 := (K.2 2 _ rfl).1
  have f3 := (K.2 3 _ rfl).1
  refine bodyPost_ret (v := .agg #[.string md, .int .i64 30, .string tx, .int .i64 ln]) (by simp [results, Tryz.results37, go_sem, f0, f1, f2, f3]) rfl ?_
  exact ⟨rfl, ((Below.refl _ _).alloc (Nat.le_refl _) _).alloc (by simp) _⟩
def SentsOwn (w : World) (l : List Snt) (e : Ending) (w' : World) : Prop := RowPost w 83 6 l.length (l.flatMap sncells) e w'

set_option maxHeartbeats 16000000 in
set_option maxRecDepth 100000 in
theorem specCapture_c {w : World} {v v2 v3 : Value} {L : List Lgr} {H : List Hnd} {q : Int} {rs : List Rul} {l : List Wrn} (h : TreeIn w w.heap.size v L H q) (h2 : RulesIn w w.heap.size v2 rs) (h3 : WrnsIn w w.heap.size v3 l) :
    Calls Tryz.prog 8 #[v, v2, v3] w (SentsOwn w (capX L H q rs l)) := by
  have C := hid (fun (W : World) (hW : Below w.heap.size w W) => specTreeX_c (h.below hW (Nat.le_refl _)) hW.size)
  have C1 := hid (fun (W : World) (hW : Below w.heap.size w W) => specValidRules_c v2 rs.length w.heap.size rs W (h2.1.below hW (Nat.le_refl _)) hW.size)
  have C2 := hid (fun (W : World) (hW : Below w.heap.size w W) => specValidWarnings_c v3 l.length w.heap.size l W (h3.1.below hW (Nat.le_refl _)) hW.size)
  have C3 := hid (fun (hz : rulsOk rs = true) (hq : wrnsOk l = true) (W : World) (hW : Below w.heap.size w W) => specShown_c (h2.below hW (Nat.le_refl _)) (h3.below hW (Nat.le_refl _)) hW.size hz hq)
  have CS := hid (fun (h1 : treeOk L H q = true) (nm tx : ByteArray) (lv sq : Int) (hnm : nm.size ≤ 1048576) (htx : tx.size ≤ 1048576) (h2 : recOk ⟨nm.data.toList, lv, tx.data.toList, sq⟩ = true) (W : World) (hW : Below w.heap.size w W) => specSend_c nm tx lv sq (h.below hW (Nat.le_refl _)) hW.size h1 h2 hnm htx)
  have HW := hid h3
  obtain ⟨A1, n1, k1, A2, n2, k2, rfl⟩ := h.form
  obtain ⟨Ar, cr, rfl, hrc, hrm⟩ := h2.1.1.form
  obtain ⟨Al, cl, rfl, hlc, hlm⟩ := h3.1.1.form
  unfold maxLen at hrm hlm
  have HBAD := hid (fun hbad : (treeOk L H q && (rulsOk rs && wrnsOk l)) = false => capX_bad (L := L) (H := H) (q := q) (rs := rs) (l := l) hbad)
  have HGOOD := hid (fun hg : wrnsOk l = true => capX_good (L := L) (H := H) (q := q) (rs := rs) hg)
  have HSH := hid (fun (hz : rulsOk rs = true) (hq : wrnsOk l = true) => (show shX rs l = shG rs 0 l [] [] by unfold shX; rw [show shOk rs l = true by unfold shOk; rw [hz, hq]; rfl]; rfl))
  have HXB := hid (shX_bnd rs l)
  have hxl := shX_len rs l
  generalize capX L H q rs l = Y at *
  have HB0 := hid (show Below w.heap.size w (w.alloc (.cells #[.slice A1 n1 k1, .slice A2 n2 k2, .int .i64 q] 36)) by go_grown)
  have HT0 := hid (Blk.new w #[.slice A1 n1 k1, .slice A2 n2 k2, .int .i64 q] 36)
  clear h h2 h3
  cases ht : treeOk L H q with
  | false =>
    rw [ht] at C
    replace C := hid C
    have HE := hid (HBAD.out (by rw [ht]; rfl))
    clear ht C1 C2 C3 CS HGOOD HBAD HSH HXB hxl HW
    go_enter Tryz.func8, Tryz.ntmps8
    go_wp2_with fail
    refine (C.out _ HB0.out).mono ?_
    rintro e w1 ⟨rfl, hb⟩
    have HB1 := hid (HB0.out.trans (hb.mono HB0.out.size))
    have HT1 := hid (HT0.out.to hb)
    clear hb
    go_wp2_with fail
    go_ret
    exact ⟨_, rfl, by rw [HE.out]; exact World.ownsRow_nil _ _ _ _, HB1.out⟩
  | true =>
    rw [ht] at C
    replace C := hid C
    replace CS := hid (CS.out ht)
    cases hz : rulsOk rs with
    | false =>
      rw [hz] at C1
      replace C1 := hid C1
      have HE := hid (HBAD.out (by rw [ht, hz]; rfl))
      clear ht hz C2 C3 CS HGOOD HBAD HSH HXB hxl HW
      go_enter Tryz.func8, Tryz.ntmps8
      go_wp2_with fail
      refine (C.out _ HB0.out).mono ?_
      rintro e w1 ⟨rfl, hb⟩
      have HB1 := hid (HB0.out.trans (hb.mono HB0.out.size))
      have HT1 := hid (HT0.out.to hb)
      clear hb
      go_wp2_with fail
      refine (C1.out _ HB1.out).mono ?_
      rintro e w2 ⟨rfl, hb⟩
      have HB2 := hid (HB1.out.trans (hb.mono HB1.out.size))
      have HT2 := hid (HT1.out.to hb)
      clear hb
      go_wp2_with fail
      go_ret
      exact ⟨_, rfl, by rw [HE.out]; exact World.ownsRow_nil _ _ _ _, HB2.out⟩
    | true =>
      rw [hz] at C1
      replace C1 := hid C1
      cases hq : wrnsOk l with
      | false =>
        rw [hq] at C2
        replace C2 := hid C2
        have HE := hid (HBAD.out (by rw [ht, hz, hq]; rfl))
        clear ht hz hq C3 CS HGOOD HBAD HSH HXB hxl HW
        go_enter Tryz.func8, Tryz.ntmps8
        go_wp2_with fail
        refine (C.out _ HB0.out).mono ?_
        rintro e w1 ⟨rfl, hb⟩
        have HB1 := hid (HB0.out.trans (hb.mono HB0.out.size))
        have HT1 := hid (HT0.out.to hb)
        clear hb
        go_wp2_with fail
        refine (C1.out _ HB1.out).mono ?_
        rintro e w2 ⟨rfl, hb⟩
        have HB2 := hid (HB1.out.trans (hb.mono HB1.out.size))
        have HT2 := hid (HT1.out.to hb)
        clear hb
        go_wp2_with fail
        refine (C2.out _ HB2.out).mono ?_
        rintro e w3 ⟨rfl, hb⟩
        have HB3 := hid (HB2.out.trans (hb.mono HB2.out.size))
        have HT3 := hid (HT2.out.to hb)
        clear hb
        go_wp2_with fail
        go_ret
        exact ⟨_, rfl, by rw [HE.out]; exact World.ownsRow_nil _ _ _ _, HB3.out⟩
      | true =>
        rw [hq] at C2
        replace C2 := hid C2
        have HE := hid (HGOOD.out hq)
        have HOKW := hid (fun (x : Wrn) (hx : x ∈ l) => recW_ok (wrns_at hq hx))
        have C3' := C3.out hz hq
        rw [← HSH.out hz hq] at C3'
        replace C3 := hid C3'
        generalize hX : shX rs l = X at *
        obtain ⟨xs, xb⟩ := X
        replace HXB := hid (show ∀ x ∈ xs, 0 ≤ x ∧ x < (l.length : Int) from HXB.out)
        replace hxl : xs.length ≤ 12 := hxl
        replace HE := hid (show Y = (capR xs l).flatMap (sendX L H q) from HE.out)
        generalize hnl : l.length = nl at *
        replace hnl := hid hnl
        generalize rs.length = nr at *
        clear ht hz hq HGOOD HBAD HSH C3' hX
        go_enter Tryz.func8, Tryz.ntmps8
        go_wp2_with fail
        refine (C.out _ HB0.out).mono ?_
        rintro e w1 ⟨rfl, hb⟩
        have HB1 := hid (HB0.out.trans (hb.mono HB0.out.size))
        have HT1 := hid (HT0.out.to hb)
        clear hb
        go_wp2_with fail
        refine (C1.out _ HB1.out).mono ?_
        rintro e w2 ⟨rfl, hb⟩
        have HB2 := hid (HB1.out.trans (hb.mono HB1.out.size))
        have HT2 := hid (HT1.out.to hb)
        clear hb
        go_wp2_with fail
        refine (C2.out _ HB2.out).mono ?_
        rintro e w3 ⟨rfl, hb⟩
        have HB3 := hid (HB2.out.trans (hb.mono HB2.out.size))
        have HT3 := hid (HT2.out.to hb)
        clear hb
        go_wp2_with fail
        refine (C3.out _ HB3.out).mono ?_
        rintro e w4 ⟨u0, rs0, rfl, hi0, hr0, hb⟩
        have HB4 := hid (HB3.out.trans (hb.mono HB3.out.size))
        have HT4 := hid (HT3.out.to hb)
        subst hi0
        have HSI := hid (Sl.of_own (show w4.ownsRow _ _ 1 u0 xs.length (xs.map vint) from hr0.head))
        obtain ⟨A0, c0', rfl, h0c, h0m⟩ := HSI.out.form
        unfold maxLen at h0m
        clear hb hr0 C C1 C2 C3 HB0 HT0 HB1 HT1 HB2 HT2 HB3 HT3
        generalize hn : xs.length = n at *
        replace hn := hid hn
        have HO4 := hid (World.ownsRow_lit w4 #[] 0 (Nat.le_refl _) (by unfold maxLen; omega) (by simp) : (w4.alloc (.cells #[] 83)).ownsRow w4.heap.size 83 6 (.slice (some ⟨w4.heap.size, 0, none⟩) 0 0) 0 [])
        have HX4 := hid ((Below.refl w4.heap.size w4).alloc (Nat.le_refl _) (.cells #[] 83))
        go_wp2_with fail
        go_loopw [9, 10] (fun ov iv wr => ∃ (k : Nat) (x : List Snt), iv = .int .i64 k ∧ k ≤ n ∧ Hid (x = (capR (xs.take k) l).flatMap (sendX L H q)) ∧ x.length ≤ 30 * k ∧ Hid (wr.ownsRow w4.heap.size 83 6 ov x.length (x.flatMap sncells)) ∧ Hid (Below w4.heap.size w4 wr)) (fun _ iv _ => n - (intOf iv).toNat)
        case atStart => exact ⟨0, [], rfl, Nat.zero_le _, rfl, Nat.zero_le _, HO4.out, HX4.out⟩
        case round =>
          obtain ⟨k, x, rfl, hk, HX, hxk, HOW, HB⟩ := hrel
          obtain ⟨Ax, cx, rfl, -, -⟩ := (Sl.of_own HOW.out).form
          by_cases hlt : k < n
          · have HBw := hid (HB4.out.trans (HB.out.mono HB4.out.size))
            obtain ⟨b, o, i, rfl, hbB, hi, ci⟩ := Sl.int_at (HSI.out.below HB.out (Nat.le_refl _)) hlt
            have hbd := HXB.out i (List.mem_of_getElem? hi)
            obtain ⟨j, rfl⟩ : ∃ j : Nat, i = (j : Int) := ⟨i.toNat, by omega⟩
            have hj : j < nl := by omega
            obtain ⟨b2, o2, tx, md, ln, rfl, hbB2, hx, c0, c1, c2⟩ := wncells_at (show Sl wr w.heap.size 3 nl (.slice Al nl cl) (l.flatMap wncells) from by have h9 := (HW.out.below HBw.out (Nat.le_refl _)).1.1; rwa [hnl.out] at h9) hj
            have hfit := wncells_fit HW.out.1.2 hx
            unfold maxTxt at hfit
            have HXX := hid (show (capR (xs.take (k + 1)) l).flatMap (sendX L H q) = (capR (xs.take k) l).flatMap (sendX L H q) ++ sendX L H q ⟨md.data.toList, 30, tx.data.toList, ln⟩ by
              rw [capR_snoc hi (w := ⟨tx.data.toList, md.data.toList, ln⟩) (by simpa using hx), List.flatMap_append]; simp [recW])
            have hcall := hid (CS.out md tx 30 ln hfit.2 hfit.1 (HOKW.out _ (List.mem_of_getElem? hx)))
            have CW := hid (fun (W : World) => warningRecord_c ln tx md W)
            have hsl := sendX_len L H q ⟨md.data.toList, 30, tx.data.toList, ln⟩
            have HT3 := HT4
            have HTw := hid (HT4.out.to HB.out)
            have hls := HB.out.size
            have h4s := HB4.out.size
            have hbr : b < wr.heap.size := by omega
            have hb3 : b2 < w4.heap.size := by omega
            have hbr2 : b2 < wr.heap.size := by omega
            have hwl : w.heap.size < wr.heap.size := HTw.out.1
            have SG := hid (fun (W : World) (hR : Below wr.heap.size wr W) => (show (fun w' : World => w'.cell? ⟨w.heap.size, 0, none⟩ = some (.slice A1 n1 k1) ∧ w'.cell? ⟨w.heap.size, 1, none⟩ = some (.slice A2 n2 k2) ∧ w'.cell? ⟨w.heap.size, 2, none⟩ = some (.int .i64 q) ∧ w'.cell? ⟨b, o + k, none⟩ = some (.int .i64 (j : Int)) ∧ w'.cell? ⟨b2, o2 + j * 3, none⟩ = some (.string tx) ∧ w'.cell? ⟨b2, o2 + j * 3 + 1, none⟩ = some (.string md) ∧ w'.cell? ⟨b2, o2 + j * 3 + 2, none⟩ = some (.int .i64 ln)) W from ⟨((HTw.out.to hR).2 0 _ rfl).1, ((HTw.out.to hR).2 1 _ rfl).1, ((HTw.out.to hR).2 2 _ rfl).1, (hR.cell (p := ⟨b, _, none⟩) hbr).trans ci, (hR.cell (p := ⟨b2, _, none⟩) hbr2).trans c0, (hR.cell (p := ⟨b2, _, none⟩) hbr2).trans c1, (hR.cell (p := ⟨b2, _, none⟩) hbr2).trans c2⟩))
            have SH := hid (fun (W : World) (hR : Below w4.heap.size w4 W) => (show (fun w' : World => w'.cell? ⟨w.heap.size, 0, none⟩ = some (.slice A1 n1 k1) ∧ w'.cell? ⟨w.heap.size, 1, none⟩ = some (.slice A2 n2 k2) ∧ w'.cell? ⟨w.heap.size, 2, none⟩ = some (.int .i64 q) ∧ w'.cell? ⟨b, o + k, none⟩ = some (.int .i64 (j : Int)) ∧ w'.cell? ⟨b2, o2 + j * 3, none⟩ = some (.string tx) ∧ w'.cell? ⟨b2, o2 + j * 3 + 1, none⟩ = some (.string md) ∧ w'.cell? ⟨b2, o2 + j * 3 + 2, none⟩ = some (.int .i64 ln)) W from ⟨((HT3.out.to hR).2 0 _ rfl).1, ((HT3.out.to hR).2 1 _ rfl).1, ((HT3.out.to hR).2 2 _ rfl).1, ((hR.cell (p := ⟨b, _, none⟩) hbB).trans ((HB.out.cell (p := ⟨b, _, none⟩) hbB).symm.trans ci)), ((hR.cell (p := ⟨b2, _, none⟩) hb3).trans ((HB.out.cell (p := ⟨b2, _, none⟩) hb3).symm.trans c0)), ((hR.cell (p := ⟨b2, _, none⟩) hb3).trans ((HB.out.cell (p := ⟨b2, _, none⟩) hb3).symm.trans c1)), ((hR.cell (p := ⟨b2, _, none⟩) hb3).trans ((HB.out.cell (p := ⟨b2, _, none⟩) hb3).symm.trans c2))⟩))
            have s0 : (0 : Int) ≤ (k : Int) := by omega
            have s1 : (k : Int) < (n : Int) := by omega
            have s2 : ((k : Int)).toNat = k := by simp
            have t0 : (0 : Int) ≤ (j : Int) := by omega
            have t1 : (j : Int) < (nl : Int) := by omega
            have t2 : ((j : Int)).toNat = j := by simp
            clear hi hx hfit c0 c1 c2 ci hbd
            go_wp2_with fail
            have HR0 := hid ((Below.refl wr.heap.size wr).drew)
            refine wp_region_held_drew (S := fun w' : World => w'.cell? ⟨w.heap.size, 0, none⟩ = some (.slice A1 n1 k1) ∧ w'.cell? ⟨w.heap.size, 1, none⟩ = some (.slice A2 n2 k2) ∧ w'.cell? ⟨w.heap.size, 2, none⟩ = some (.int .i64 q) ∧ w'.cell? ⟨b, o + k, none⟩ = some (.int .i64 (j : Int)) ∧ w'.cell? ⟨b2, o2 + j * 3, none⟩ = some (.string tx) ∧ w'.cell? ⟨b2, o2 + j * 3 + 1, none⟩ = some (.string md) ∧ w'.cell? ⟨b2, o2 + j * 3 + 2, none⟩ = some (.int .i64 ln)) (by kernel_rfl) (SG.out _ HR0.out) (fun hS => ?_)
            refine wpAnyH_take (i := 0) (oi := ?oi101) (v := ?v101) ?hi101 (by kernel_rfl) ?hf101 ?hr101 ?hQ101 (Or.inl ⟨?hw101, ?hy101⟩) (by assumption) ?rest101
            case hi101 => simp only [List.getElem?_toArray, List.getElem?_cons_succ, List.getElem?_cons_zero]; rfl
            case hf101 => kernel_rfl
            case hr101 => kernel_rfl
            case hw101 => rfl
            case hy101 => (intro w hSw; (try dsimp only at hSw); go_simp; all_goals (first | done | with_reducible rfl))
            case hQ101 => exact fun _ _ _ h => h
            simp only [Act.put, List.setIfInBounds_toArray, List.set_cons_zero, List.set_cons_succ]
            refine wpAnyH_take (i := 1) (oi := ?oi102) (v := ?v102) ?hi102 (by kernel_rfl) ?hf102 ?hr102 ?hQ102 (Or.inl ⟨?hw102, ?hy102⟩) (by assumption) ?rest102
            case hi102 => simp only [List.getElem?_toArray, List.getElem?_cons_succ, List.getElem?_cons_zero]; rfl
            case hf102 => kernel_rfl
            case hr102 => kernel_rfl
            case hw102 => rfl
            case hy102 => (intro w hSw; (try dsimp only at hSw); go_simp; all_goals (first | done | with_reducible rfl))
            case hQ102 => exact fun _ _ _ h => h
            simp only [Act.put, List.setIfInBounds_toArray, List.set_cons_zero, List.set_cons_succ]
            refine wpAnyH_take (i := 2) (oi := ?oi103) (v := ?v103) ?hi103 (by kernel_rfl) ?hf103 ?hr103 ?hQ103 (Or.inl ⟨?hw103, ?hy103⟩) (by assumption) ?rest103
            case hi103 => simp only [List.getElem?_toArray, List.getElem?_cons_succ, List.getElem?_cons_zero]; rfl
            case hf103 => kernel_rfl
            case hr103 => kernel_rfl
            case hw103 => rfl
            case hy103 => (intro w hSw; (try dsimp only at hSw); go_simp; all_goals (first | done | with_reducible rfl))
            case hQ103 => exact fun _ _ _ h => h
            simp only [Act.put, List.setIfInBounds_toArray, List.set_cons_zero, List.set_cons_succ]
            refine wpAnyH_take (i := 3) (oi := ?oi104) (v := ?v104) ?hi104 (by kernel_rfl) ?hf104 ?hr104 ?hQ104 (Or.inl ⟨?hw104, ?hy104⟩) (by assumption) ?rest104
            case hi104 => simp only [List.getElem?_toArray, List.getElem?_cons_succ, List.getElem?_cons_zero]; rfl
            case hf104 => kernel_rfl
            case hr104 => kernel_rfl
            case hw104 => rfl
            case hy104 => (intro w hSw; (try dsimp only at hSw); go_simp; all_goals (first | done | with_reducible rfl))
            case hQ104 => exact fun _ _ _ h => h
            simp only [Act.put, List.setIfInBounds_toArray, List.set_cons_zero, List.set_cons_succ]
            refine wpAnyH_take (i := 4) (oi := ?oi105) (v := ?v105) ?hi105 (by kernel_rfl) ?hf105 ?hr105 ?hQ105 (Or.inl ⟨?hw105, ?hy105⟩) (by assumption) ?rest105
            case hi105 => simp only [List.getElem?_toArray, List.getElem?_cons_succ, List.getElem?_cons_zero]; rfl
            case hf105 => kernel_rfl
            case hr105 => kernel_rfl
            case hw105 => rfl
            case hy105 => (intro w hSw; (try dsimp only at hSw); go_simp; all_goals (first | done | with_reducible rfl))
            case hQ105 => exact fun _ _ _ h => h
            simp only [Act.put, List.setIfInBounds_toArray, List.set_cons_zero, List.set_cons_succ]
            refine wpAnyH_take (i := 5) (oi := ?oi106) (v := ?v106) ?hi106 (by kernel_rfl) ?hf106 ?hr106 ?hQ106 (Or.inl ⟨?hw106, ?hy106⟩) (by assumption) ?rest106
            case hi106 => simp only [List.getElem?_toArray, List.getElem?_cons_succ, List.getElem?_cons_zero]; rfl
            case hf106 => kernel_rfl
            case hr106 => kernel_rfl
            case hw106 => rfl
            case hy106 => (intro w hSw; (try dsimp only at hSw); go_simp; all_goals (first | done | with_reducible rfl))
            case hQ106 => exact fun _ _ _ h => h
            simp only [Act.put, List.setIfInBounds_toArray, List.set_cons_zero, List.set_cons_succ]
            refine wpAnyH_take (i := 6) (oi := ?oi107) (v := ?v107) ?hi107 (by kernel_rfl) ?hf107 ?hr107 ?hQ107 (Or.inl ⟨?hw107, ?hy107⟩) (by assumption) ?rest107
            case hi107 => simp only [List.getElem?_toArray, List.getElem?_cons_succ, List.getElem?_cons_zero]; rfl
            case hf107 => kernel_rfl
            case hr107 => kernel_rfl
            case hw107 => rfl
            case hy107 => (intro w hSw; (try dsimp only at hSw); go_simp; all_goals (first | done | with_reducible rfl))
            case hQ107 => exact fun _ _ _ h => h
            simp only [Act.put, List.setIfInBounds_toArray, List.set_cons_zero, List.set_cons_succ]
            refine wpAnyH_take (i := 7) (oi := ?oi108) (v := ?v108) ?hi108 (by kernel_rfl) ?hf108 ?hr108 ?hQ108 (Or.inl ⟨?hw108, ?hy108⟩) (by assumption) ?rest108
            case hi108 => simp only [List.getElem?_toArray, List.getElem?_cons_succ, List.getElem?_cons_zero]; rfl
            case hf108 => kernel_rfl
            case hr108 => kernel_rfl
            case hw108 => rfl
            case hy108 => (intro w hSw; (try dsimp only at hSw); go_simp; all_goals (first | done | with_reducible rfl))
            case hQ108 => exact fun _ _ _ h => h
            simp only [Act.put, List.setIfInBounds_toArray, List.set_cons_zero, List.set_cons_succ]
            refine wpAnyH_take (i := 8) (oi := ?oi109) (v := ?v109) ?hi109 (by kernel_rfl) ?hf109 ?hr109 ?hQ109 (Or.inl ⟨?hw109, ?hy109⟩) (by assumption) ?rest109
            case hi109 => simp only [List.getElem?_toArray, List.getElem?_cons_succ, List.getElem?_cons_zero]; rfl
            case hf109 => kernel_rfl
            case hr109 => kernel_rfl
            case hw109 => rfl
            case hy109 => (intro w hSw; (try dsimp only at hSw); go_simp; all_goals (first | done | with_reducible rfl))
            case hQ109 => exact fun _ _ _ h => h
            simp only [Act.put, List.setIfInBounds_toArray, List.set_cons_zero, List.set_cons_succ]
            refine wpAnyH_ready (rs := [9]) (by kernel_rfl) (by simp) ?_
            refine AllReadyH.cons (o := ?oi110) ?hi110 (fun K hK => ?step110) AllReadyH.nil
            case hi110 => simp only [List.getElem?_toArray, List.getElem?_cons_succ, List.getElem?_cons_zero]; rfl
            rw [if_pos (by rfl)]
            go_simp
            go_at_call 37
            refine (CW.out _).mono ?_
            rintro e w5 ⟨rfl, hb⟩
            have HR1 := hid (HR0.out.trans (hb.mono HR0.out.size))
            clear hb
            refine hK.out _ _ (SG.out _ HR1.out) (fun hS => ?_)
            refine wpAnyH_ready (rs := [10]) (by kernel_rfl) (by simp) ?_
            refine AllReadyH.cons (o := ?oi111) ?hi111 (fun K hK => ?step111) AllReadyH.nil
            case hi111 => simp only [List.getElem?_toArray, List.getElem?_cons_succ, List.getElem?_cons_zero]; rfl
            rw [if_pos (by rfl)]
            go_simp
            go_at_call 36
            refine (hcall.out _ (HBw.out.trans (HR1.out.mono HBw.out.size))).mono ?_
            rintro e w6 ⟨vS, rfl, hoS, hb⟩
            have HR2 := hid (HR1.out.trans (hb.mono HR1.out.size))
            have HB6 := hid (HB.out.trans (HR2.out.mono HB.out.size))
            have HO6 := hid (own_below HOW.out HR2.out)
            have HS6 := hid (Sl.of_own hoS)
            clear hb hoS
            refine hK.out _ _ (SG.out _ HR2.out) (fun hS => ?_)
            generalize sendX L H q ⟨md.data.toList, 30, tx.data.toList, ln⟩ = y at *
            obtain ⟨i0, hi, hz0, hz1, hz2⟩ := info_parts Tryz.infoSent
            refine wpAnyH_ready (rs := [11]) (by kernel_rfl) (by simp) ?_
            refine AllReadyH.cons (o := ?oi112) ?hi112 (fun K hK => ?step112) AllReadyH.nil
            case hi112 => simp only [List.getElem?_toArray, List.getElem?_cons_succ, List.getElem?_cons_zero]; rfl
            rw [if_pos (by rfl)]
            refine wp_appG rfl rfl w4.heap.size 83 i0 _ 6 80 Tryz.underlying31 hi hz0 hz1 hz2 rfl (by decide) (by rfl) HO6.out (by rfl) HS6.out (sncells_one _) (by unfold maxLen; omega) (by omega) HB6.out.size ?_
            intro v7 wa ho7 hg7 _
            have HB7 := hid (HB6.out.trans (below_of_grown hg7 HB6.out.size (own_lt HO6.out)))
            have HO7 := hid (show wa.ownsRow w4.heap.size 83 6 v7 (x ++ y).length ((x ++ y).flatMap sncells) by simpa using ho7)
            clear ho7 hg7
            refine hK.out _ _ (SH.out _ HB7.out) (fun hS => ?_)
            refine wpAnyH_take (i := 12) (oi := ?oi113) (v := ?v113) ?hi113 (by kernel_rfl) ?hf113 ?hr113 ?hQ113 (Or.inl ⟨?hw113, ?hy113⟩) (by assumption) ?rest113
            case hi113 => simp only [List.getElem?_toArray, List.getElem?_cons_succ, List.getElem?_cons_zero]; rfl
            case hf113 => kernel_rfl
            case hr113 => kernel_rfl
            case hw113 => rfl
            case hy113 => (intro w hSw; (try dsimp only at hSw); go_simp; all_goals (first | done | with_reducible rfl))
            case hQ113 => exact fun _ _ _ h => h
            simp only [Act.put, List.setIfInBounds_toArray, List.set_cons_zero, List.set_cons_succ]
            refine wpAnyH_done (by kernel_rfl) ?_ _
            clear hS
            go_wp2_with fail
            go_roundw
            case rel => exact ⟨k + 1, _, by go_num, by omega, (by show _ = _; rw [HXX.out, HX.out]), by rw [List.length_append]; omega, HO7.out, HB7.out⟩
            case measure => simp [intOf]; omega
          · have HF := hid (show Y = x by rw [HE.out, HX.out, List.take_of_length_le (by have := hn.out; omega)])
            go_wp2_with fail
            go_ret
            exact ⟨_, rfl, by rw [HF.out]; exact own_base HOW.out HB4.out.size, HB4.out.trans (HB.out.mono HB4.out.size)⟩
theorem specCaptureX_c {w : World} {v v2 v3 : Value} {L : List Lgr} {H : List Hnd} {q : Int} {rs : List Rul} {l : List Wrn} (h : TreeIn w w.heap.size v L H q) (h2 : RulesIn w w.heap.size v2 rs) (h3 : WrnsIn w w.heap.size v3 l) :
    Calls Tryz.prog 8 #[v, v2, v3] w (SentsPost w (capX L H q rs l)) := (specCapture_c h h2 h3).mono fun _ _ h => sents_post h
theorem capX_fit {L : List Lgr} {H : List Hnd} {q : Int} {rs : List Rul} {l : List Wrn} (hf : WrnsFit l) : SentsFit (capX L H q rs l) := by
  unfold capX
  exact runX_fit _ _ _ fun r hr => by
    obtain ⟨x, hx, rfl⟩ := capR_mem hr
    have := hf.2 x hx
    exact ⟨this.2, this.1⟩
end Go.Proofs.YtlifaeleoiodkaaGreatDoor
