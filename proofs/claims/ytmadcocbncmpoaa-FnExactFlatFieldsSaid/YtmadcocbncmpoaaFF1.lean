/-
  FIELDS TOLD TOGETHER: FlatFields of the program.
-/
import Derived.Test.YtmadcocbncmpoaaFF0
namespace Go.Proofs.Ytmadcocbncmpoaa
open Go.RowKit Nm
set_option linter.unusedSimpArgs false
set_option linter.unusedVariables false

theorem own_fcell {w : World} {lo n c g : Nat} {cur : List Fld} (ho : w.ownsRow lo 40 2 (.slice (some ⟨g, 0, none⟩) n c) n (cur.flatMap fdcells)) {k d : Nat} {x : Fld} {u : Value} (hx : cur[k]? = some x) (hu : (fdcells x)[d]? = some u) :
    w.cell? ⟨g, k * 2 + d, none⟩ = some u ∧ w.frozen? ⟨g, k * 2 + d, none⟩ = false := by
  have hj := (List.getElem?_eq_some_iff.1 hu).1
  rw [fdcells_len] at hj
  have e := flat_at fdcells 2 fdcells_len cur k d x hx hj
  rw [hu] at e
  have hlt := (List.getElem?_eq_some_iff.1 e).1
  exact ⟨(ho.cellAt (k * 2 + d) (by have := ho.1; omega)).trans e, ho.frozenAt _⟩
theorem flat_setF {α β : Type} {f : α → List β} (hf : ∀ x, (f x).length = 2) (l : List α) (i : Nat) (x y : α) {a0 a1 : β} (hx : f x = [a0, a1]) (hy : l[i]? = some y) :
    ((l.flatMap f).set (i * 2) a0).set (i * 2 + 1) a1 = (l.set i x).flatMap f := by
  induction l generalizing i with
  | nil => simp at hy
  | cons b l ih =>
    obtain ⟨b0, b1, e⟩ : ∃ b0 b1, f b = [b0, b1] := by
      have h := hf b
      match f b, h with
      | [b0, b1], _ => exact ⟨_, _, rfl⟩
    cases i with
    | zero => simp [e, hx]
    | succ k =>
      have h := ih k (by simpa using hy)
      have e6 : (k + 1) * 2 = k * 2 + 2 := by omega
      rw [e6, List.flatMap_cons, e, List.set_cons_succ, List.flatMap_cons, e, ← h]
      rfl
theorem own_fset {w : World} {lo n c g : Nat} {cur : List Fld} (ho : w.ownsRow lo 40 2 (.slice (some ⟨g, 0, none⟩) n c) n (cur.flatMap fdcells)) {i : Nat} {x y : Fld} {a0 a1 : Value} (hx : fdcells x = [a0, a1]) (hy : cur[i]? = some y) :
    ((w.setCell ⟨g, i * 2, none⟩ a0).setCell ⟨g, i * 2 + 1, none⟩ a1).ownsRow lo 40 2 (.slice (some ⟨g, 0, none⟩) n c) n ((cur.set i x).flatMap fdcells)
      ∧ w.grownBy ((w.setCell ⟨g, i * 2, none⟩ a0).setCell ⟨g, i * 2 + 1, none⟩ a1) (some g) := by
  obtain ⟨s0, g0⟩ := ho.stored (i * 2) a0
  obtain ⟨s1, g1⟩ := s0.stored (i * 2 + 1) a1
  refine ⟨?_, grown_tr g0 g1⟩
  rw [← flat_setF fdcells_len cur i x y hx hy]
  exact s1
theorem put_fit {z : List Fld} {f : Fld} (h : ∀ y ∈ z, fdcellsFit y) (hf : fdcellsFit f) : ∀ y ∈ putF z f, fdcellsFit y := by
  intro y hy
  rcases putF_mem hy with hy | rfl
  · exact h y hy
  · exact hf

set_option maxHeartbeats 8000000 in
set_option maxRecDepth 100000 in
theorem implFlat_c {w : World} {v : Value} {s : FldssD} (h : FldssIn w w.heap.size v s) :
    Calls Try.prog 7 #[v] w (RowPost w 40 2 (ffX s).length ((ffX s).flatMap fdcells)) := by
  obtain ⟨A, c, rfl, hnc, hcm⟩ := h.1.form
  unfold maxLen at hcm
  have HV := hid h.1
  generalize hn : s.length = n at *
  replace hn := hid hn
  clear h
  by_cases h4 : (4 : Int) < (n : Int)
  · have HE := hid (ffOk_long (s := s) (by have := hn.out; omega))
    clear HV
    go_enter Try.func7, Try.ntmps7
    go_wp2_with fail
    go_ret
    exact ⟨_, rfl, by rw [HE.out]; exact World.ownsRow_nil _ _ _ _, Below.refl _ _⟩
  go_enter Try.func7, Try.ntmps7
  go_wp2_with fail
  go_loopw [3, 14] (fun ov iv wr => ∃ (k : Nat) (x : List Fld), iv = .int .i64 k ∧ k ≤ n ∧ Hid (x = flatS [] (s.take k)) ∧ Hid (∀ l ∈ s.take k, fldsOk l = true) ∧ x.length ≤ 5 * k ∧ Hid (∀ y ∈ x, fdcellsFit y) ∧ Hid (wr.ownsRow w.heap.size 40 2 ov x.length (x.flatMap fdcells)) ∧ Hid (Below w.heap.size w wr)) (fun _ iv _ => n - (intOf iv).toNat)
  case atStart => exact ⟨0, [], rfl, Nat.zero_le _, rfl, (by intro l hl; cases hl), Nat.zero_le _, (by intro l hl; cases hl), World.ownsRow_nil _ _ _ _, Below.refl _ _⟩
  case round =>
    obtain ⟨k, x, rfl, hk, HX, HA, hxl, HF, HOW, HB⟩ := hrel
    obtain ⟨Ax, cx, rfl, -, -⟩ := (Sl.of_own HOW.out).form
    by_cases hlt : k < n
    · obtain ⟨b, o, u, l, rfl, hbB, hx, g0, hin⟩ := HV.out.elem hlt
      obtain ⟨Au, cu, rfl, huc, hum⟩ := hin.1.1.form
      unfold maxLen at hum
      have HIN := hid hin.1
      have HSX := hid (flatS_step (o := []) hx)
      have HXX := hid hx
      generalize hm : l.length = m at *
      have CV := implValidFields_c _ m w.heap.size l wr (HIN.out.below HB.out (Nat.le_refl _)) HB.out.size
      replace g0 := (HB.out.cell (p := ⟨b, o + k, none⟩) hbB).trans g0
      clear hx hin
      cases hz : fldsOk l with
      | false =>
        rw [hz] at CV
        replace CV := hid CV
        have HE := hid (ffOk_bad HXX.out hz)
        clear hz
        go_wp2_with fail
        refine CV.out.mono ?_
        rintro e w2 ⟨rfl, hb⟩
        have HB2 := hid (HB.out.trans (hb.mono HB.out.size))
        clear hb
        go_wp2_with fail
        go_ret
        exact ⟨_, rfl, by rw [HE.out]; exact World.ownsRow_nil _ _ _ _, HB2.out⟩
      | true =>
        rw [hz] at CV
        replace CV := hid CV
        have hm5 : m ≤ 5 := by have := flds_len hz; omega
        have HZ := hid hz
        replace hm := hid hm
        clear hz
        go_wp2_with fail
        refine CV.out.mono ?_
        rintro e w2 ⟨rfl, hb⟩
        have HB2 := hid (HB.out.trans (hb.mono HB.out.size))
        have HO2 := hid (own_below HOW.out hb)
        clear hb g0 HOW HB CV
        go_wp2_with fail
        go_loopw [3, 23] (fun ov jv wr => ∃ (j : Nat) (z : List Fld), jv = .int .i64 j ∧ j ≤ m ∧ Hid (z = flatL x (l.take j)) ∧ z.length ≤ x.length + j ∧ Hid (∀ y ∈ z, fdcellsFit y) ∧ Hid (wr.ownsRow w.heap.size 40 2 ov z.length (z.flatMap fdcells)) ∧ Hid (Below w.heap.size w wr)) (fun _ jv _ => m - (intOf jv).toNat)
        case atStart => exact ⟨0, x, rfl, Nat.zero_le _, rfl, Nat.le_refl _, HF.out, HO2.out, HB2.out⟩
        case round =>
          obtain ⟨j, z, rfl, hj, HZX, hzl, HFz, HOz, HBz⟩ := hrel
          obtain ⟨Az, cz, rfl, hzc, hzm⟩ := (Sl.of_own HOz.out).form
          unfold maxLen at hzm
          by_cases hjm : j < m
          · obtain ⟨b2, o2, ky, vl, rfl, hbB2, hx2, c0, c1⟩ := fdcells_at (HIN.out.below HBz.out (Nat.le_refl _)).1 hjm
            have hfit := fdcells_fit HIN.out.2 hx2
            unfold maxTxt at hfit
            have HFF := hid (show fdcellsFit (⟨ky.data.toList, vl.data.toList⟩ : Fld) from HIN.out.2 _ (List.mem_of_getElem? hx2))
            have HST := hid (flatL_step (o := x) hx2)
            have HB3 := hid (HBz.out.alloc HBz.out.size (.cells #[.string ky, .string vl] 40))
            have HO3 := hid (HOz.out.alloc (.cells #[.string ky, .string vl] 40))
            have HK3 := hid (Blk.new wr #[.string ky, .string vl] 40)
            have CK := keyAt_c (.slice Az z.length cz) z.length _ z ky (wr.alloc (.cells #[.string ky, .string vl] 40)) ⟨Sl.of_own HO3.out, HFz.out⟩ (Nat.le_refl _)
            have KC := key_cases z ⟨ky.data.toList, vl.data.toList⟩
            clear hx2 HOz HBz
            rcases KC with ⟨hi, hp⟩ | ⟨q, y, hi, hq, hy, hky, hp⟩
            · rw [hi] at CK
              replace CK := hid CK
              have HP := hid (hp.symm.trans (show putF z _ = flatL x (l.take (j + 1)) by rw [HST.out, HZX.out]))
              have HF5 := hid (show ∀ y ∈ z ++ [(⟨ky.data.toList, vl.data.toList⟩ : Fld)], fdcellsFit y by rw [← hp]; exact put_fit HFz.out HFF.out)
              clear hi hp
              go_wp2_with fail
              refine CK.out.mono ?_
              rintro e w3 ⟨rfl, hb⟩
              have HB4 := hid (HB3.out.trans (hb.mono HB3.out.size))
              have HO4 := hid (own_below HO3.out hb)
              have HK4 := hid (HK3.out.to hb)
              have y0 := (HK4.out.2 0 _ rfl).1
              have y1 := (HK4.out.2 1 _ rfl).1
              clear hb HB3 HO3 HK3 CK c0 c1
              go_wp2_with (at_builtin; refine appField _ rfl (.tmp 37) (.tmp 39) rfl w.heap.size _ z (by rfl) HO4.out ky vl _ _ _ (by rfl) (by simp) (by omega) HB4.out.size ?_)
              intro v9 w9 ho9 hb9
              have HO9 := hid ho9
              have HB9 := hid (HB4.out.trans hb9)
              clear ho9 hb9
              go_wp2_with fail
              go_roundw
              case rel => exact ⟨j + 1, _, by go_num, by omega, HP.out, by rw [List.length_append]; simp; omega, HF5.out, (by simpa [Hid] using HO9.out), HB9.out⟩
              case measure => simp [intOf]; omega
            · rw [hi] at CK
              replace CK := hid CK
              obtain ⟨g, rfl, hgl⟩ := own_some HO3.out (by omega)
              have HP := hid (hp.symm.trans (show putF z _ = flatL x (l.take (j + 1)) by rw [HST.out, HZX.out]))
              have HF5 := hid (show ∀ y ∈ z.set q (⟨ky.data.toList, vl.data.toList⟩ : Fld), fdcellsFit y by rw [← hp]; exact put_fit HFz.out HFF.out)
              have HY := hid hy
              have s0 : (0 : Int) ≤ (q : Int) := by omega
              have s1 : (q : Int) < (z.length : Int) := by omega
              have s2 : ((q : Int)).toNat = q := by simp
              clear hi hp hy hky
              go_wp2_with fail
              refine CK.out.mono ?_
              rintro e w3 ⟨rfl, hb⟩
              have HB4 := hid (HB3.out.trans (hb.mono HB3.out.size))
              have HO4 := hid (own_below HO3.out hb)
              have HK4 := hid (HK3.out.to hb)
              have y0 := (HK4.out.2 0 _ rfl).1
              have y1 := (HK4.out.2 1 _ rfl).1
              obtain ⟨f0, f2⟩ := own_fcell HO4.out HY.out (d := 0) rfl
              obtain ⟨f1, f3⟩ := own_fcell HO4.out HY.out (d := 1) rfl
              simp only [Nat.add_zero] at f0 f2
              have hst := own_fset HO4.out (x := ⟨ky.data.toList, vl.data.toList⟩) (a0 := .string ky) (a1 := .string vl) (by simp [fdcells, txt_data]) HY.out
              have HO5 := hid (show ((w3.setCell ⟨g, q * 2, none⟩ (.string ky)).setCell ⟨g, q * 2 + 1, none⟩ (.string vl)).ownsRow w.heap.size 40 2 (.slice (some ⟨g, 0, none⟩) z.length cz) (z.set q (⟨ky.data.toList, vl.data.toList⟩ : Fld)).length ((z.set q (⟨ky.data.toList, vl.data.toList⟩ : Fld)).flatMap fdcells) by rw [List.length_set]; exact hst.1)
              have HB5 := hid (HB4.out.trans (below_of_grown hst.2 HB4.out.size (fun t ht => own_lt HO4.out t ht)))
              clear hb HB3 HO3 HK3 CK c0 c1 hst
              go_wp2_with fail
              go_roundw
              case rel => exact ⟨j + 1, z.set q (⟨ky.data.toList, vl.data.toList⟩ : Fld), by go_num, by omega, HP.out, by rw [List.length_set]; omega, HF5.out, (by first | exact HO5.out | simpa using HO5.out), (by first | exact HB5.out | simpa using HB5.out)⟩
              case measure => simp [intOf]; omega
          · have HE := hid (show z = flatS [] (s.take (k + 1)) by rw [HSX.out, ← HX.out, HZX.out, List.take_of_length_le (by have := hm.out; omega)])
            have HA2 := hid (show ∀ l ∈ s.take (k + 1), fldsOk l = true by
              intro l' hl'
              rw [List.take_add_one, HXX.out] at hl'
              rcases List.mem_append.1 hl' with h9 | h9
              · exact HA.out l' h9
              · rw [show l' = l by simpa using h9]; exact HZ.out)
            go_wp2_with fail
            go_roundw
            case rel => exact ⟨k + 1, z, by go_num, by omega, HE.out, HA2.out, by omega, HFz.out, HOz.out, HBz.out⟩
            case measure => simp [intOf]; omega
    · have HE := hid (show ffX s = x by
        have hx9 := HX.out
        have ha9 := HA.out
        rw [List.take_of_length_le (by have := hn.out; omega)] at hx9 ha9
        rw [ffX_all ha9 (by have := hn.out; omega)]; exact hx9.symm)
      go_wp2_with fail
      go_ret
      exact ⟨_, rfl, by rw [HE.out]; exact HOW.out, HB.out⟩
end Go.Proofs.Ytmadcocbncmpoaa
