/-
  RECORDS SENT: RunRecords: the model's, and both as the exact law takes them.
-/
import Derived.Test.YtioegkcekbkblaaGreatSN9
import Derived.Test.YtioegkcekbkblaaGreatKRecs
namespace Go.Proofs.YtioegkcekbkblaaGreat
open Go.RowKit Go.Proofs.YtioegkcekbkblaaGreat.Nm
set_option linter.unusedSimpArgs false
set_option linter.unusedVariables false

theorem run_notree {L : List Lgr} {H : List Hnd} {q : Int} {rs : List Rec} (h : treeOk L H q = false) : runX L H q rs = [] := by
  unfold runX
  split
  · rw [List.flatMap_eq_nil_iff]; exact fun r _ => sendX_notree h
  · rfl
set_option maxHeartbeats 8000000 in
set_option maxRecDepth 100000 in
theorem specRunRecords_c {w : World} {B : Nat} {v v2 : Value} {n : Nat} {L : List Lgr} {H : List Hnd} {q : Int} {rs : List Rec} (h : TreeIn w B v L H q) (hr : Rs w B n v2 rs) (hB : B ≤ w.heap.size) :
    Calls Tryz.prog 26 #[v, v2] w (RowPost w 41 6 (runX L H q rs).length ((runX L H q rs).flatMap sncells)) := by
  have C := fun (W : World) (hW : Below w.heap.size w W) => specTreeX_c (h.below hW hB) (Nat.le_trans hB hW.size)
  have CV := fun (W : World) (hW : Below w.heap.size w W) => specValidRecords_c v2 n B rs W (hr.below hW hB) (Nat.le_trans hB hW.size)
  have CS := hid (fun (h1 : treeOk L H q = true) (nm tx : ByteArray) (lv sq : Int) (hnm : nm.size ≤ 1048576) (htx : tx.size ≤ 1048576) (h2 : recOk ⟨nm.data.toList, lv, tx.data.toList, sq⟩ = true) (W : World) (hW : Below w.heap.size w W) => specSend_c nm tx lv sq (h.below hW hB) (Nat.le_trans hB hW.size) h1 h2 hnm htx)
  have hln := hr.count
  obtain ⟨A1, n1, k1, A2, n2, k2, rfl⟩ := h.form
  obtain ⟨A, c, rfl, hnc, hcm⟩ := hr.1.form
  unfold maxLen at hcm
  have HB0 := hid (show Below w.heap.size w (w.alloc (.cells #[.slice A1 n1 k1, .slice A2 n2 k2, .int .i64 q] 26)) by go_grown)
  have HT0 := hid (Blk.new w #[.slice A1 n1 k1, .slice A2 n2 k2, .int .i64 q] 26)
  have HV := hid (And.intro hr hln)
  cases hz : treeOk L H q with
  | false =>
    rw [hz] at C
    replace C := hid C
    have HE := hid (run_notree (rs := rs) hz)
    clear h hr hln hz CV CS
    go_enter Tryz.func26, Tryz.ntmps26
    go_wp2_with fail
    refine (C.out _ HB0.out).mono ?_
    rintro e w1 ⟨rfl, hb⟩
    have HB1 := hid (HB0.out.trans (hb.mono HB0.out.size))
    clear hb
    go_wp2_with fail
    go_ret
    exact ⟨_, rfl, by rw [HE.out]; exact World.ownsRow_nil _ _ _ _, HB1.out⟩
  | true =>
    rw [hz] at C
    replace C := hid C
    replace CS := hid (CS.out hz)
    cases hz2 : recsOk rs with
    | false =>
      rw [hz2] at CV
      replace CV := hid CV
      have HE := hid (show runX L H q rs = [] by unfold runX; rw [hz2]; rfl)
      clear h hr hln hz hz2 CS
      go_enter Tryz.func26, Tryz.ntmps26
      go_wp2_with fail
      refine (C.out _ HB0.out).mono ?_
      rintro e w1 ⟨rfl, hb⟩
      have HB1 := hid (HB0.out.trans (hb.mono HB0.out.size))
      clear hb
      go_wp2_with fail
      refine (CV.out _ HB1.out).mono ?_
      rintro e w2 ⟨rfl, hb⟩
      have HB2 := hid (HB1.out.trans (hb.mono HB1.out.size))
      clear hb
      go_wp2_with fail
      go_ret
      exact ⟨_, rfl, by rw [HE.out]; exact World.ownsRow_nil _ _ _ _, HB2.out⟩
    | true =>
      rw [hz2] at CV
      replace CV := hid CV
      have HE := hid (show runX L H q rs = rs.flatMap (sendX L H q) by unfold runX; rw [hz2]; rfl)
      have hn12 : n ≤ 12 := by have := recsOk_len hz2; omega
      have HOK := hid (show ∀ r ∈ rs, recOk r = true by
        have h9 := hz2
        unfold recsOk at h9
        simp only [Bool.and_eq_true, List.all_eq_true] at h9
        exact h9.1)
      clear h hr hln hz hz2
      generalize runX L H q rs = Y at HE ⊢
      go_enter Tryz.func26, Tryz.ntmps26
      go_wp2_with fail
      refine (C.out _ HB0.out).mono ?_
      rintro e w1 ⟨rfl, hb⟩
      have HB1 := hid (HB0.out.trans (hb.mono HB0.out.size))
      have HT1 := hid (HT0.out.to hb)
      clear hb
      go_wp2_with fail
      refine (CV.out _ HB1.out).mono ?_
      rintro e w2 ⟨rfl, hb⟩
      have HB2 := hid (HB1.out.trans (hb.mono HB1.out.size))
      have HT2 := hid (HT1.out.to hb)
      have HO2 := hid (World.ownsRow_lit w2 #[] 0 (Nat.le_refl _) (by unfold maxLen; omega) (by simp) : (w2.alloc (.cells #[] 41)).ownsRow w2.heap.size 41 6 (.slice (some ⟨w2.heap.size, 0, none⟩) 0 0) 0 [])
      have HX2 := hid ((Below.refl w2.heap.size w2).alloc (Nat.le_refl _) (.cells #[] 41))
      clear hb HB0 HT0 HB1 HT1
      go_wp2_with fail
      go_loopw [5, 6] (fun ov iv wr => ∃ (k : Nat) (x : List Snt), iv = .int .i64 k ∧ k ≤ n ∧ Hid (x = (rs.take k).flatMap (sendX L H q)) ∧ x.length ≤ 30 * k ∧ Hid (wr.ownsRow w2.heap.size 41 6 ov x.length (x.flatMap sncells)) ∧ Hid (Below w2.heap.size w2 wr)) (fun _ iv _ => n - (intOf iv).toNat)
      case atStart => exact ⟨0, [], rfl, by omega, rfl, by simp, HO2.out, HX2.out⟩
      case round =>
        obtain ⟨k, x, rfl, hk, HX, hxl, HOW, HB⟩ := hrel
        obtain ⟨Ax, cx, rfl, -, -⟩ := (Sl.of_own HOW.out).form
        by_cases hlt : k < n
        · have HBw := hid (HB2.out.trans (HB.out.mono HB2.out.size))
          obtain ⟨b, o, nm, lv, tx, sq, rfl, hbB, hx, c0, c1, c2, c3⟩ := rcells_at (HV.out.1.1.below HBw.out hB) hlt
          have hfit := rcells_fit HV.out.1.2 hx
          unfold maxTxt at hfit
          have HXX := hid (run_step (f := sendX L H q) hx)
          have hbr : b < wr.heap.size := Nat.lt_of_lt_of_le hbB (Nat.le_trans hB HBw.out.size)
          have hls := HB.out.size
          have HTw := hid (HT2.out.to HB.out)
          have hwl : w.heap.size < wr.heap.size := HTw.out.1
          have hcall := hid (CS.out nm tx lv sq hfit.1 hfit.2 (HOK.out _ (List.mem_of_getElem? hx)))
          have hsl := sendX_len L H q ⟨nm.data.toList, lv, tx.data.toList, sq⟩
          have SG := hid (fun (W : World) (hR : Below wr.heap.size wr W) => (show (fun w' : World => w'.cell? ⟨w.heap.size, 0, none⟩ = some (.slice A1 n1 k1) ∧ w'.cell? ⟨w.heap.size, 1, none⟩ = some (.slice A2 n2 k2) ∧ w'.cell? ⟨w.heap.size, 2, none⟩ = some (.int .i64 q) ∧ w'.cell? ⟨b, o + k * 4, none⟩ = some (.string nm) ∧ w'.cell? ⟨b, o + k * 4 + 1, none⟩ = some (.int .i64 lv) ∧ w'.cell? ⟨b, o + k * 4 + 2, none⟩ = some (.string tx) ∧ w'.cell? ⟨b, o + k * 4 + 3, none⟩ = some (.int .i64 sq)) W from ⟨((HTw.out.to hR).2 0 _ rfl).1, ((HTw.out.to hR).2 1 _ rfl).1, ((HTw.out.to hR).2 2 _ rfl).1, (hR.cell (p := ⟨b, _, none⟩) hbr).trans c0, (hR.cell (p := ⟨b, _, none⟩) hbr).trans c1, (hR.cell (p := ⟨b, _, none⟩) hbr).trans c2, (hR.cell (p := ⟨b, _, none⟩) hbr).trans c3⟩))
          have SH := hid (fun (W : World) (hR : Below w2.heap.size w2 W) => (show (fun w' : World => w'.cell? ⟨w.heap.size, 0, none⟩ = some (.slice A1 n1 k1) ∧ w'.cell? ⟨w.heap.size, 1, none⟩ = some (.slice A2 n2 k2) ∧ w'.cell? ⟨w.heap.size, 2, none⟩ = some (.int .i64 q) ∧ w'.cell? ⟨b, o + k * 4, none⟩ = some (.string nm) ∧ w'.cell? ⟨b, o + k * 4 + 1, none⟩ = some (.int .i64 lv) ∧ w'.cell? ⟨b, o + k * 4 + 2, none⟩ = some (.string tx) ∧ w'.cell? ⟨b, o + k * 4 + 3, none⟩ = some (.int .i64 sq)) W from ⟨((HT2.out.to hR).2 0 _ rfl).1, ((HT2.out.to hR).2 1 _ rfl).1, ((HT2.out.to hR).2 2 _ rfl).1, ((hR.cell (p := ⟨b, _, none⟩) (Nat.lt_of_lt_of_le hbB (Nat.le_trans hB HB2.out.size))).trans ((HB.out.cell (p := ⟨b, _, none⟩) (Nat.lt_of_lt_of_le hbB (Nat.le_trans hB HB2.out.size))).symm.trans c0)), ((hR.cell (p := ⟨b, _, none⟩) (Nat.lt_of_lt_of_le hbB (Nat.le_trans hB HB2.out.size))).trans ((HB.out.cell (p := ⟨b, _, none⟩) (Nat.lt_of_lt_of_le hbB (Nat.le_trans hB HB2.out.size))).symm.trans c1)), ((hR.cell (p := ⟨b, _, none⟩) (Nat.lt_of_lt_of_le hbB (Nat.le_trans hB HB2.out.size))).trans ((HB.out.cell (p := ⟨b, _, none⟩) (Nat.lt_of_lt_of_le hbB (Nat.le_trans hB HB2.out.size))).symm.trans c2)), ((hR.cell (p := ⟨b, _, none⟩) (Nat.lt_of_lt_of_le hbB (Nat.le_trans hB HB2.out.size))).trans ((HB.out.cell (p := ⟨b, _, none⟩) (Nat.lt_of_lt_of_le hbB (Nat.le_trans hB HB2.out.size))).symm.trans c3))⟩))
          have s0 : (0 : Int) ≤ (k : Int) := by omega
          have s1 : (k : Int) < (n : Int) := by omega
          have s2 : ((k : Int)).toNat = k := by simp
          clear hx hfit c0 c1 c2 c3
          go_wp2_with fail
          have HR0 := hid ((Below.refl wr.heap.size wr).drew)
          refine wp_region_held_drew (S := fun w' : World => w'.cell? ⟨w.heap.size, 0, none⟩ = some (.slice A1 n1 k1) ∧ w'.cell? ⟨w.heap.size, 1, none⟩ = some (.slice A2 n2 k2) ∧ w'.cell? ⟨w.heap.size, 2, none⟩ = some (.int .i64 q) ∧ w'.cell? ⟨b, o + k * 4, none⟩ = some (.string nm) ∧ w'.cell? ⟨b, o + k * 4 + 1, none⟩ = some (.int .i64 lv) ∧ w'.cell? ⟨b, o + k * 4 + 2, none⟩ = some (.string tx) ∧ w'.cell? ⟨b, o + k * 4 + 3, none⟩ = some (.int .i64 sq)) (by kernel_rfl) (SG.out _ HR0.out) (fun hS => ?_)
          refine wpAnyH_take (i := 0) (oi := ?oi101) (v := ?v101) ?hi101 (by kernel_rfl) ?hf101 ?hr101 ?hQ101 (Or.inl ⟨?hw101, ?hy101⟩) (by assumption) ?rest101
          case hi101 => simp only [List.getElem?_toArray, List.getElem?_cons_succ, List.getElem?_cons_zero]; rfl
          case hf101 => kernel_rfl
          case hr101 => kernel_rfl
          case hw101 => rfl
          case hy101 => (intro w hSw; (try dsimp only at hSw); go_simp; all_goals (first | done | with_reducible rfl))
          case hQ101 => exact fun _ _ _ h => h
          simp only [Act.put, List.setIfInBounds_toArray, List.set_cons_zero, List.set_cons_succ]
          refine wpAnyH_take (i := 1) (oi := ?oi102) (v := ?v102) ?hi102 (by kernel_rfl) ?hf102 ?hr102 ?hQ102 (Or.inl ⟨?hw102, ?hy102⟩) (by assumption) ?rest102
          case hi102 => simp only [List.getElem?_toArray, List.getElem?_cons_succ, List.getElem?_cons_zero]; rfl
          case hf102 => kernel_rfl
          case hr102 => kernel_rfl
          case hw102 => rfl
          case hy102 => (intro w hSw; (try dsimp only at hSw); go_simp; all_goals (first | done | with_reducible rfl))
          case hQ102 => exact fun _ _ _ h => h
          simp only [Act.put, List.setIfInBounds_toArray, List.set_cons_zero, List.set_cons_succ]
          refine wpAnyH_take (i := 2) (oi := ?oi103) (v := ?v103) ?hi103 (by kernel_rfl) ?hf103 ?hr103 ?hQ103 (Or.inl ⟨?hw103, ?hy103⟩) (by assumption) ?rest103
          case hi103 => simp only [List.getElem?_toArray, List.getElem?_cons_succ, List.getElem?_cons_zero]; rfl
          case hf103 => kernel_rfl
          case hr103 => kernel_rfl
          case hw103 => rfl
          case hy103 => (intro w hSw; (try dsimp only at hSw); go_simp; all_goals (first | done | with_reducible rfl))
          case hQ103 => exact fun _ _ _ h => h
          simp only [Act.put, List.setIfInBounds_toArray, List.set_cons_zero, List.set_cons_succ]
          refine wpAnyH_take (i := 3) (oi := ?oi104) (v := ?v104) ?hi104 (by kernel_rfl) ?hf104 ?hr104 ?hQ104 (Or.inl ⟨?hw104, ?hy104⟩) (by assumption) ?rest104
          case hi104 => simp only [List.getElem?_toArray, List.getElem?_cons_succ, List.getElem?_cons_zero]; rfl
          case hf104 => kernel_rfl
          case hr104 => kernel_rfl
          case hw104 => rfl
          case hy104 => (intro w hSw; (try dsimp only at hSw); go_simp; all_goals (first | done | with_reducible rfl))
          case hQ104 => exact fun _ _ _ h => h
          simp only [Act.put, List.setIfInBounds_toArray, List.set_cons_zero, List.set_cons_succ]
          refine wpAnyH_take (i := 4) (oi := ?oi105) (v := ?v105) ?hi105 (by kernel_rfl) ?hf105 ?hr105 ?hQ105 (Or.inl ⟨?hw105, ?hy105⟩) (by assumption) ?rest105
          case hi105 => simp only [List.getElem?_toArray, List.getElem?_cons_succ, List.getElem?_cons_zero]; rfl
          case hf105 => kernel_rfl
          case hr105 => kernel_rfl
          case hw105 => rfl
          case hy105 => (intro w hSw; (try dsimp only at hSw); go_simp; all_goals (first | done | with_reducible rfl))
          case hQ105 => exact fun _ _ _ h => h
          simp only [Act.put, List.setIfInBounds_toArray, List.set_cons_zero, List.set_cons_succ]
          refine wpAnyH_take (i := 5) (oi := ?oi106) (v := ?v106) ?hi106 (by kernel_rfl) ?hf106 ?hr106 ?hQ106 (Or.inl ⟨?hw106, ?hy106⟩) (by assumption) ?rest106
          case hi106 => simp only [List.getElem?_toArray, List.getElem?_cons_succ, List.getElem?_cons_zero]; rfl
          case hf106 => kernel_rfl
          case hr106 => kernel_rfl
          case hw106 => rfl
          case hy106 => (intro w hSw; (try dsimp only at hSw); go_simp; all_goals (first | done | with_reducible rfl))
          case hQ106 => exact fun _ _ _ h => h
          simp only [Act.put, List.setIfInBounds_toArray, List.set_cons_zero, List.set_cons_succ]
          refine wpAnyH_ready (rs := [6]) (by kernel_rfl) (by simp) ?_
          refine AllReadyH.cons (o := ?oi107) ?hi107 (fun K hK => ?step107) AllReadyH.nil
          case hi107 => simp only [List.getElem?_toArray, List.getElem?_cons_succ, List.getElem?_cons_zero]; rfl
          rw [if_pos (by rfl)]
          go_simp
          go_at_call 46
          refine (hcall.out _ (HBw.out.trans (HR0.out.mono HBw.out.size))).mono ?_
          rintro e w3 ⟨vS, rfl, hoS, hb⟩
          have HR1 := hid (HR0.out.trans (hb.mono HR0.out.size))
          have HB3 := hid (HB.out.trans (HR1.out.mono HB.out.size))
          have HO3 := hid (own_below HOW.out HR1.out)
          have HS3 := hid (Sl.of_own hoS)
          clear hb hoS
          refine hK.out _ _ (SG.out _ HR1.out) (fun hS => ?_)
          generalize sendX L H q ⟨nm.data.toList, lv, tx.data.toList, sq⟩ = y at *
          obtain ⟨i0, hi, hz0, hz1, hz2⟩ := info_parts Tryz.infoSent
          refine wpAnyH_ready (rs := [7]) (by kernel_rfl) (by simp) ?_
          refine AllReadyH.cons (o := ?oi108) ?hi108 (fun K hK => ?step108) AllReadyH.nil
          case hi108 => simp only [List.getElem?_toArray, List.getElem?_cons_succ, List.getElem?_cons_zero]; rfl
          rw [if_pos (by rfl)]
          refine wp_appG rfl rfl w2.heap.size 41 i0 _ 6 80 Tryz.underlying31 hi hz0 hz1 hz2 rfl (by decide) (by rfl) HO3.out (by rfl) HS3.out (sncells_one _) (by unfold maxLen; omega) (by omega) HB3.out.size ?_
          intro v5 wa ho5 hg5 _
          have HB5 := hid (HB3.out.trans (below_of_grown hg5 HB3.out.size (own_lt HO3.out)))
          have HO5 := hid (show wa.ownsRow w2.heap.size 41 6 v5 (x ++ y).length ((x ++ y).flatMap sncells) by simpa using ho5)
          have HR5 := hid (show Below w.heap.size w wa from HB2.out.trans (HB5.out.mono HB2.out.size))
          clear ho5 hg5
          refine hK.out _ _ (SH.out _ HB5.out) (fun hS => ?_)
          refine wpAnyH_take (i := 8) (oi := ?oi109) (v := ?v109) ?hi109 (by kernel_rfl) ?hf109 ?hr109 ?hQ109 (Or.inl ⟨?hw109, ?hy109⟩) (by assumption) ?rest109
          case hi109 => simp only [List.getElem?_toArray, List.getElem?_cons_succ, List.getElem?_cons_zero]; rfl
          case hf109 => kernel_rfl
          case hr109 => kernel_rfl
          case hw109 => rfl
          case hy109 => (intro w hSw; (try dsimp only at hSw); go_simp; all_goals (first | done | with_reducible rfl))
          case hQ109 => exact fun _ _ _ h => h
          simp only [Act.put, List.setIfInBounds_toArray, List.set_cons_zero, List.set_cons_succ]
          refine wpAnyH_done (by kernel_rfl) ?_ _
          clear hS
          go_wp2_with fail
          go_roundw
          case rel => exact ⟨k + 1, _, by go_num, by omega, (by show _ = _; rw [HXX.out, HX.out]), by rw [List.length_append]; omega, HO5.out, HB5.out⟩
          case measure => simp [intOf]; omega
        · have HF := hid (show Y = x by rw [HE.out, HX.out, List.take_of_length_le (by have := HV.out.2; omega)])
          go_wp2_with fail
          go_ret
          exact ⟨_, rfl, by rw [HF.out]; exact own_base HOW.out HB2.out.size, HB2.out.trans (HB.out.mono HB2.out.size)⟩
theorem runX_fit (L : List Lgr) (H : List Hnd) (q : Int) {rs : List Rec} (h : ∀ r ∈ rs, r.nm.length ≤ 1048576 ∧ r.tx.length ≤ 1048576) : SentsFit (runX L H q rs) := by
  unfold runX
  split
  · rename_i h9
    refine ⟨Nat.le_trans (run_len L H q rs) (by have := recsOk_len h9; unfold maxTxt; omega), fun x hx => ?_⟩
    obtain ⟨r, hr, hx⟩ := List.mem_flatMap.1 hx
    exact (sendX_fit L H q (h r hr).1 (h r hr).2).2 x hx
  · exact SentsFit.nil
theorem specRunX_c {w : World} {v v2 : Value} {L : List Lgr} {H : List Hnd} {q : Int} {rs : List Rec} (h : TreeIn w w.heap.size v L H q) (hr : RecsIn w w.heap.size v2 rs) :
    Calls Tryz.prog 26 #[v, v2] w (SentsPost w (runX L H q rs)) :=
  (specRunRecords_c h hr.1 (Nat.le_refl _)).mono fun _ _ h => sents_post h
theorem implRunX_c {w : World} {v v2 : Value} {L : List Lgr} {H : List Hnd} {q : Int} {rs : List Rec} (h : TreeIn w w.heap.size v L H q) (hr : RecsIn w w.heap.size v2 rs) :
    Calls Tryz.prog 25 #[v, v2] w (SentsPost w (runX L H q rs)) :=
  (implRunRecords_c h hr.1 (Nat.le_refl _)).mono fun _ _ h => sents_post h
end Go.Proofs.YtioegkcekbkblaaGreat
