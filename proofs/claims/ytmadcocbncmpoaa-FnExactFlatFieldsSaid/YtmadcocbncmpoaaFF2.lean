/-
  FIELDS TOLD TOGETHER: FlatFields of the model.
-/
import Derived.Test.YtmadcocbncmpoaaFF1
import Derived.Deep.RegionHeld3
namespace Go.Proofs.Ytmadcocbncmpoaa
open Go.RowKit Nm
set_option linter.unusedSimpArgs false
set_option linter.unusedVariables false

set_option maxHeartbeats 8000000 in
set_option maxRecDepth 100000 in
theorem putFields_c {w : World} {B : Nat} {va vb : Value} {x l : List Fld} (ha : Flds w B x.length va x) (hb : Flds w B l.length vb l) (hB : B ≤ w.heap.size) (hx : x.length ≤ 100) (hl : l.length ≤ 5) :
    Calls Try.prog 15 #[va, vb] w (RowPost w 40 2 (flatL x l).length ((flatL x l).flatMap fdcells)) := by
  obtain ⟨A, c, rfl, hnc, hcm⟩ := ha.1.form
  obtain ⟨Al, cl, rfl, hlc, hlm⟩ := hb.1.form
  unfold maxLen at hcm hlm
  have HA := hid ha
  have HL := hid hb
  generalize hm : l.length = m at *
  replace hm := hid hm
  have H0 := hid (show (w.alloc (.cells #[] 40)).ownsRow w.heap.size 40 2 (.slice (some ⟨w.heap.size, 0, none⟩) 0 0) 0 [] from World.ownsRow_lit w #[] 0 (Nat.le_refl _) (by unfold maxLen; omega) rfl)
  have HB0 := hid ((Below.refl w.heap.size w).alloc (Nat.le_refl _) (.cells #[] 40))
  have HSX := hid (HA.out.below HB0.out hB).1
  clear ha hb
  go_enter Try.func15, Try.ntmps15
  go_wp2_with (at_builtin; refine appFieldS _ rfl (.tmp 8) (.tmp 9) rfl w.heap.size _ [] x (by rfl) H0.out B _ (by rfl) HSX.out (by simp; omega) HB0.out.size ?_)
  intro v1 w1 ho1 hb1
  have HO1 := hid (show w1.ownsRow w.heap.size 40 2 v1 x.length (x.flatMap fdcells) by simpa using ho1)
  have HB1 := hid (HB0.out.trans hb1)
  clear ho1 hb1 H0 HB0 HSX
  go_wp2_with fail
  go_loopw [5, 6] (fun ov iv wr => ∃ (k : Nat) (z : List Fld), iv = .int .i64 k ∧ k ≤ m ∧ Hid (z = flatL x (l.take k)) ∧ z.length ≤ x.length + k ∧ Hid (∀ y ∈ z, fdcellsFit y) ∧ Hid (wr.ownsRow w.heap.size 40 2 ov z.length (z.flatMap fdcells)) ∧ Hid (Below w.heap.size w wr)) (fun _ iv _ => m - (intOf iv).toNat)
  case atStart => exact ⟨0, x, rfl, Nat.zero_le _, rfl, Nat.le_refl _, HA.out.2, HO1.out, HB1.out⟩
  case round =>
    obtain ⟨k, z, rfl, hk, HZX, hzl, HFz, HOz, HBz⟩ := hrel
    obtain ⟨Az, cz, rfl, hzc, hzm⟩ := (Sl.of_own HOz.out).form
    unfold maxLen at hzm
    by_cases hlt : k < m
    · obtain ⟨b, o, ky, vl, rfl, hbB, hx2, c0, c1⟩ := fdcells_at (HL.out.below HBz.out hB).1 hlt
      have hfit := fdcells_fit HL.out.2 hx2
      unfold maxTxt at hfit
      have HFF := hid (show fdcellsFit (⟨ky.data.toList, vl.data.toList⟩ : Fld) from HL.out.2 _ (List.mem_of_getElem? hx2))
      have HST := hid (flatL_step (o := x) hx2)
      have CK := fieldAt_c (.slice Az z.length cz) z.length _ z ky wr ⟨Sl.of_own HOz.out, HFz.out⟩
      have KC := key_cases z ⟨ky.data.toList, vl.data.toList⟩
      have s0 : (0 : Int) ≤ (k : Int) := by omega
      have s1 : (k : Int) < (m : Int) := by omega
      have s2 : ((k : Int)).toNat = k := by simp
      clear hx2
      rcases KC with ⟨hi, hp⟩ | ⟨q, y, hi, hq, hy, hky, hp⟩
      · rw [hi] at CK
        have CK2 := hid CK
        have HP := hid (hp.symm.trans (show putF z _ = flatL x (l.take (k + 1)) by rw [HST.out, HZX.out]))
        have HF5 := hid (show ∀ y ∈ z ++ [(⟨ky.data.toList, vl.data.toList⟩ : Fld)], fdcellsFit y by rw [← hp]; exact put_fit HFz.out HFF.out)
        clear hi hp CK
        go_wp2_with fail
        refine CK2.out.mono ?_
        rintro e w2 ⟨rfl, rfl⟩
        go_wp2_with (at_builtin; refine appField _ rfl (.tmp 35) (.tmp 40) rfl w.heap.size _ z (by rfl) HOz.out ky vl _ _ _ (by rfl) (by simp) (by omega) HBz.out.size ?_)
        intro v9 w9 ho9 hb9
        have HO9 := hid ho9
        have HB9 := hid (HBz.out.trans hb9)
        clear ho9 hb9
        go_wp2_with fail
        go_roundw
        case rel => exact ⟨k + 1, _, by go_num, by omega, HP.out, by rw [List.length_append]; simp; omega, HF5.out, (by simpa [Hid] using HO9.out), HB9.out⟩
        case measure => simp [intOf]; omega
      · rw [hi] at CK
        have CK2 := hid CK
        obtain ⟨g, rfl, hgl⟩ := own_some HOz.out (by omega)
        have HP := hid (hp.symm.trans (show putF z _ = flatL x (l.take (k + 1)) by rw [HST.out, HZX.out]))
        have HF5 := hid (show ∀ y ∈ z.set q (⟨ky.data.toList, vl.data.toList⟩ : Fld), fdcellsFit y by rw [← hp]; exact put_fit HFz.out HFF.out)
        have HY := hid hy
        have HKY := hid hky
        have t0 : (0 : Int) ≤ (q : Int) := by omega
        have t1 : (q : Int) < (z.length : Int) := by omega
        have t2 : ((q : Int)).toNat = q := by simp
        obtain ⟨f1, f3⟩ := own_fcell HOz.out HY.out (d := 1) rfl
        have hst := HOz.out.stored (q * 2 + 1) (.string vl)
        rw [flat_set fdcells 2 fdcells_len z q 1 y (⟨ky.data.toList, vl.data.toList⟩ : Fld) (.string vl) HY.out (by omega) (by simp [fdcells, txt_data, HKY.out])] at hst
        have HO5 := hid (show (wr.setCell ⟨g, q * 2 + 1, none⟩ (.string vl)).ownsRow w.heap.size 40 2 (.slice (some ⟨g, 0, none⟩) z.length cz) (z.set q (⟨ky.data.toList, vl.data.toList⟩ : Fld)).length ((z.set q (⟨ky.data.toList, vl.data.toList⟩ : Fld)).flatMap fdcells) by rw [List.length_set]; exact hst.1)
        have HB5 := hid (HBz.out.trans (below_of_grown hst.2 HBz.out.size (fun t ht => own_lt HOz.out t ht)))
        clear hi hp hy hky CK hst
        go_wp2_with fail
        refine CK2.out.mono ?_
        rintro e w2 ⟨rfl, rfl⟩
        go_wp2_with fail
        go_roundw
        case rel => exact ⟨k + 1, z.set q (⟨ky.data.toList, vl.data.toList⟩ : Fld), by go_num, by omega, HP.out, by rw [List.length_set]; omega, HF5.out, HO5.out, HB5.out⟩
        case measure => simp [intOf]; omega
    · have HE := hid (show flatL x l = z by
        have h9 := HZX.out
        rw [List.take_of_length_le (by have := hm.out; omega)] at h9
        exact h9.symm)
      go_wp2_with fail
      go_ret
      exact ⟨_, rfl, by rw [HE.out]; exact HOz.out, HBz.out⟩

set_option maxHeartbeats 8000000 in
set_option maxRecDepth 100000 in
theorem validStack_c {w : World} {v : Value} {s : FldssD} (h : FldssIn w w.heap.size v s) :
    Calls Try.prog 14 #[v] w (BoolPost w (ffOk s)) := by
  obtain ⟨A, c, rfl, hnc, hcm⟩ := h.1.form
  unfold maxLen at hcm
  have HV := hid h.1
  generalize hn : s.length = n at *
  replace hn := hid hn
  clear h
  go_enter Try.func14, Try.ntmps14
  go_wp2_with fail
  go_loopw [3] (fun iv wr => ∃ (k : Nat), iv = .int .i64 k ∧ k ≤ n ∧ Hid (∀ l ∈ s.take k, fldsOk l = true) ∧ Hid (Below w.heap.size w wr)) (fun iv _ => n - (intOf iv).toNat)
  case atStart => exact ⟨0, rfl, Nat.zero_le _, (by intro l hl; cases hl), Below.refl _ _⟩
  case round =>
    obtain ⟨k, rfl, hk, HA, HB⟩ := hrel
    by_cases hlt : k < n
    · obtain ⟨b, o, u, l, rfl, hbB, hx, g0, hin⟩ := HV.out.elem hlt
      obtain ⟨Au, cu, rfl, huc, hum⟩ := hin.1.1.form
      unfold maxLen at hum
      have HXX := hid hx
      have CV := fun (W : World) (hW : Below wr.heap.size wr W) => specValidFields_c _ l.length w.heap.size l W ((hin.1.below HB.out (Nat.le_refl _)).below hW HB.out.size) (Nat.le_trans HB.out.size hW.size)
      replace g0 := (HB.out.cell (p := ⟨b, o + k, none⟩) hbB).trans g0
      have s0 : (0 : Int) ≤ (k : Int) := by omega
      have s1 : (k : Int) < (n : Int) := by omega
      have s2 : ((k : Int)).toNat = k := by simp
      generalize hz : fldsOk l = y at CV
      replace hz := hid hz
      replace CV := hid CV
      clear hx hin
      cases y with
      | false =>
        have HE := hid (show ffOk s = false by
          cases h9 : ffOk s with
          | false => rfl
          | true => have := (ffOk_parts h9).1 l (List.mem_of_getElem? HXX.out); rw [hz.out] at this; cases this)
        go_wp2_with (go_at_call 22; refine (CV.out _ (Below.refl _ _)).mono ?_; rintro e w2 ⟨rfl, hb⟩)
        go_ret
        exact ⟨ret_bool HE.out.symm, HB.out.trans (hb.mono HB.out.size)⟩
      | true =>
        have HA2 := hid (show ∀ l ∈ s.take (k + 1), fldsOk l = true by
          intro l' hl'
          rw [List.take_add_one, HXX.out] at hl'
          rcases List.mem_append.1 hl' with h9 | h9
          · exact HA.out l' h9
          · rw [show l' = l by simpa using h9]; exact hz.out)
        go_wp2_with (go_at_call 22; refine (CV.out _ (Below.refl _ _)).mono ?_; rintro e w2 ⟨rfl, hb⟩)
        go_roundw
        case rel => exact ⟨k + 1, by go_num, by omega, HA2.out, HB.out.trans (hb.mono HB.out.size)⟩
        case measure => simp [intOf]; omega
    · have HE := hid (show ffOk s = decide ((n : Int) ≤ 4) by
        have h1 := HA.out
        rw [List.take_of_length_le (by have := hn.out; omega)] at h1
        unfold ffOk
        rw [show s.all fldsOk = true from List.all_eq_true.2 h1, Bool.true_and]
        exact decide_eq_decide.2 (by have := hn.out; omega))
      go_wp2_with fail
      go_ret
      exact ⟨ret_bool HE.out.symm, HB.out⟩

set_option maxHeartbeats 8000000 in
set_option maxRecDepth 100000 in
theorem specFlat_c {w : World} {v : Value} {s : FldssD} (h : FldssIn w w.heap.size v s) :
    Calls Try.prog 5 #[v] w (RowPost w 40 2 (ffX s).length ((ffX s).flatMap fdcells)) := by
  have CV := validStack_c h
  obtain ⟨A, c, rfl, hnc, hcm⟩ := h.1.form
  unfold maxLen at hcm
  have HV := hid h.1
  generalize hn : s.length = n at *
  replace hn := hid hn
  clear h
  cases hz : ffOk s with
  | false =>
    rw [hz] at CV
    replace CV := hid CV
    have HE := hid (show ffX s = [] by unfold ffX; rw [hz]; rfl)
    clear HV hz
    go_enter Try.func5, Try.ntmps5
    go_wp2_with fail
    refine CV.out.mono ?_
    rintro e w1 ⟨rfl, hb⟩
    go_wp2_with fail
    go_ret
    exact ⟨_, rfl, by rw [HE.out]; exact World.ownsRow_nil _ _ _ _, hb⟩
  | true =>
    rw [hz] at CV
    replace CV := hid CV
    have HP := hid (ffOk_parts hz)
    have hn4 : n ≤ 4 := by have := HP.out.2; have := hn.out; omega
    have HE := hid (show ffX s = flatS [] s by unfold ffX; rw [hz]; rfl)
    clear hz
    go_enter Try.func5, Try.ntmps5
    go_wp2_with fail
    refine CV.out.mono ?_
    rintro e w1 ⟨rfl, hb⟩
    have HB1 := hid (hb.alloc hb.size (.cells #[] 40))
    have HO1 := hid (own_base (World.ownsRow_lit w1 #[] 0 (Nat.le_refl _) (by unfold maxLen; omega) rfl : (w1.alloc (.cells #[] 40)).ownsRow w1.heap.size 40 2 (.slice (some ⟨w1.heap.size, 0, none⟩) 0 0) 0 []) hb.size)
    clear hb CV
    go_wp2_with fail
    go_loopw [3, 4] (fun ov iv wr => ∃ (k : Nat) (x : List Fld), iv = .int .i64 k ∧ k ≤ n ∧ Hid (x = flatS [] (s.take k)) ∧ x.length ≤ 5 * k ∧ Hid (∀ y ∈ x, fdcellsFit y) ∧ Hid (wr.ownsRow w.heap.size 40 2 ov x.length (x.flatMap fdcells)) ∧ Hid (Below w.heap.size w wr)) (fun _ iv _ => n - (intOf iv).toNat)
    case atStart => exact ⟨0, [], rfl, Nat.zero_le _, rfl, Nat.zero_le _, (by intro l hl; cases hl), HO1.out, HB1.out⟩
    case round =>
      obtain ⟨k, x, rfl, hk, HX, hxl, HF, HOW, HB⟩ := hrel
      obtain ⟨Ax, cx, rfl, -, -⟩ := (Sl.of_own HOW.out).form
      by_cases hlt : k < n
      · obtain ⟨b, o, u, l, rfl, hbB, hx, g0, hin⟩ := HV.out.elem hlt
        have hl5 := flds_len (HP.out.1 l (List.mem_of_getElem? hx))
        have HSX := hid (flatS_step (o := []) hx)
        have HFL := hid (show ∀ y ∈ flatL x l, fdcellsFit y by
          intro y hy
          rcases flatL_mem l x hy with h9 | h9
          · exact HF.out y h9
          · exact hin.1.2 y h9)
        have CP := putFields_c (w := wr) (B := wr.heap.size) ⟨Sl.of_own HOW.out, HF.out⟩ ((hin.1.below HB.out (Nat.le_refl _)).more HB.out.size) (Nat.le_refl _) (by omega) hl5
        have hfl := flatL_len l x
        obtain ⟨Au, cu, rfl, huc, hum⟩ := hin.1.1.form
        unfold maxLen at hum
        replace CP := hid CP
        replace g0 := (HB.out.cell (p := ⟨b, o + k, none⟩) hbB).trans g0
        have s0 : (0 : Int) ≤ (k : Int) := by omega
        have s1 : (k : Int) < (n : Int) := by omega
        have s2 : ((k : Int)).toNat = k := by simp
        clear hx hin
        go_wp2_with fail
        refine CP.out.mono ?_
        rintro e w2 ⟨v2, rfl, ho2, hb2⟩
        have HO2 := hid (own_base ho2 HB.out.size)
        have HB2 := hid (HB.out.trans (hb2.mono HB.out.size))
        clear ho2 hb2 CP
        go_wp2_with fail
        go_roundw
        case rel => exact ⟨k + 1, _, by go_num, by omega, (by show _ = _; rw [HSX.out, ← HX.out]), by omega, HFL.out, HO2.out, HB2.out⟩
        case measure => simp [intOf]; omega
      · have HF9 := hid (show ffX s = x by rw [HE.out, HX.out, List.take_of_length_le (by have := hn.out; omega)])
        go_wp2_with fail
        go_ret
        exact ⟨_, rfl, by rw [HF9.out]; exact HOW.out, HB.out⟩
def FldsPost (w : World) (l : List Fld) (e : Ending) (w' : World) : Prop := ∃ v rs, e = .returned v ∧ FldsR rs v l ∧ Rows w' w.heap.size rs ∧ Below w.heap.size w w'
theorem flds_post {w w' : World} {l : List Fld} {e : Ending} (h : RowPost w 40 2 l.length (l.flatMap fdcells) e w') : FldsPost w l e w' := by
  obtain ⟨v, rfl, ho, hb⟩ := h
  exact ⟨v, _, rfl, rfl, Rows.one ho, hb⟩
theorem specFlatX_c {w : World} {v : Value} {s : FldssD} (h : FldssIn w w.heap.size v s) : Calls Try.prog 5 #[v] w (FldsPost w (ffX s)) := (specFlat_c h).mono fun _ _ h => flds_post h
theorem implFlatX_c {w : World} {v : Value} {s : FldssD} (h : FldssIn w w.heap.size v s) : Calls Try.prog 7 #[v] w (FldsPost w (ffX s)) := (implFlat_c h).mono fun _ _ h => flds_post h
end Go.Proofs.Ytmadcocbncmpoaa
