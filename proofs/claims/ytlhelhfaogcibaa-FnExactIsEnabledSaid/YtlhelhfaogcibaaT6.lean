/-
  WALKS: validHandlers of the model.
-/
import Derived.Test.YtlhelhfaogcibaaT5
import Derived.Deep.QuietTactic
import Derived.BigQuiet
import Derived.Deep.RegionHeld3
namespace Go.Proofs.Ytlhelhfaogcibaa
open Go.RowKit Nm
set_option linter.unusedSimpArgs false
set_option linter.unusedVariables false

theorem Hs.cut {w : World} {B n c : Nat} {A : Option Addr} {l : List HndV} (h : Hs w B n (.slice A n c) l) {k : Nat} (hk : k ≤ n) : Hs w B k (.slice A k c) (l.take k) := by
  have hl := h.count
  obtain ⟨⟨hl3, A', c', he, h2, h3, h4⟩, h5⟩ := h
  obtain ⟨rfl, rfl⟩ : A = A' ∧ c = c' := by simpa using he
  refine ⟨⟨by rw [flat_len _ 3 hcells_len, List.length_take]; omega, A, c, rfl, by omega, h3, fun h0 => ?_⟩, fun x hx => h5 x (List.mem_of_mem_take hx)⟩
  obtain ⟨b, o, e, hb, hc⟩ := h4 (by omega)
  refine ⟨b, o, e, hb, fun j u hu => hc j u ?_⟩
  have hj : j < k * 3 := by have := (List.getElem?_eq_some_iff.1 hu).1; rw [flat_len _ 3 hcells_len, List.length_take] at this; omega
  have hq : j / 3 < l.length := by omega
  have hx : l[j / 3]? = some (l[j / 3]'hq) := List.getElem?_eq_getElem hq
  have hxt : (l.take k)[j / 3]? = some (l[j / 3]'hq) := by rw [List.getElem?_take, if_pos (by omega)]; exact hx
  have e1 := flat_at hcells 3 hcells_len _ (j / 3) (j % 3) _ hxt (Nat.mod_lt _ (by omega))
  have e2 := flat_at hcells 3 hcells_len _ (j / 3) (j % 3) _ hx (Nat.mod_lt _ (by omega))
  rw [show j / 3 * 3 + j % 3 = j by omega] at e1 e2
  rw [e2, ← e1, hu]
theorem hnames_take (l : List HndV) (k : Nat) : hnames (l.take k) = (hnames l).take k := by unfold hnames; rw [List.map_take]
theorem lv_range (n : Int) : (decide (0 ≤ n) && decide (n ≤ 60)) = lvOk n := rfl

set_option maxHeartbeats 6000000 in
set_option maxRecDepth 100000 in
theorem specHandlers_c (v : Value) (n B : Nat) (l : List HndV) (w : World) (hv : Hs w B n v l) (hB : B ≤ w.heap.size) :
    Calls Try.prog 66 #[v] w (BoolPost w (hndsOk (hsOf l))) := by
  have hln := hv.count
  obtain ⟨A, c, rfl, hnc, hcm⟩ := hv.1.form
  unfold maxLen at hcm
  have HV := hid (And.intro hv hln)
  clear hv hln
  go_enter Try.func66, Try.ntmps66
  go_wp2_with fail
  go_loopw [3] (fun iv wr => ∃ k : Nat, iv = .int .i64 k ∧ k ≤ n ∧ Hid ((∀ x ∈ l.take k, hndOk x.h = true) ∧ ((hnames l).take k).Nodup) ∧ Hid (Below w.heap.size w wr)) (fun iv _ => n - (intOf iv).toNat)
  case atStart => exact ⟨0, rfl, by omega, ⟨by simp, by simp⟩, Below.refl _ _⟩
  case round =>
    obtain ⟨k, rfl, hk, HA, HW⟩ := hrel
    by_cases hlt : k < n
    · obtain ⟨b, o, x, t, rfl, hb, hx, ht, hts, hF, g0, g1, g2⟩ := HV.out.1.at_ hlt
      obtain ⟨A3, k3, hfv, _, _⟩ := hF.1.form
      rw [hfv] at g2
      have c0 : wr.cell? ⟨b, o + k * 3, none⟩ = some (.string t) := (HW.out.cell (p := ⟨b, o + k * 3, none⟩) (by show b < _; omega)).trans g0
      have c1 : wr.cell? ⟨b, o + k * 3 + 1, none⟩ = some (.int .i64 x.h.lv) := (HW.out.cell (p := ⟨b, o + k * 3 + 1, none⟩) (by show b < _; omega)).trans g1
      have c2 : wr.cell? ⟨b, o + k * 3 + 2, none⟩ = some (.slice A3 x.fn k3) := (HW.out.cell (p := ⟨b, o + k * 3 + 2, none⟩) (by show b < _; omega)).trans g2
      have hmt : t.size ≤ maxLen := by unfold maxTxt at hts; unfold maxLen; omega
      have hxn : (hnames l)[k]? = some t.data.toList := by unfold hnames; rw [List.getElem?_map, hx, ht]; rfl
      have HX := hid (And.intro hx (And.intro hxn ht))
      have HW0 := hid (HW.out.alloc HW.out.size (.cells #[.string t, .int .i64 x.h.lv, .slice A3 x.fn k3] 91))
      rw [hfv] at hF
      have HF := hid hF
      have hcut := HV.out.1.cut hk
      have IW := hid (fun W => validWord_c t W hmt)
      have LV := hid (fun W => inRange_c x.h.lv 0 60 W)
      have AT := hid (fun (W : World) (hW : Below w.heap.size w W) => handlerAt_c (.slice (some ⟨b, o, none⟩) k c) k B (l.take k) t W (hcut.below hW hB))
      have VF := hid (fun (W : World) (hW : Below w.heap.size w W) => validFilters_c (.slice A3 x.fn k3) x.fn B x.h.fs W (hF.below hW hB) (by have := hW.size; omega))
      rw [lv_range] at LV
      rw [hnames_take] at AT
      have HE := hid (show hndOk x.h = (wordOk t.data.toList && (!decide (t.data.toList = lastL) && (lvOk x.h.lv && filtersOk x.h.fs))) by unfold hndOk; rw [ht])
      have e1 := last_eq t
      clear hx hxn ht g0 g1 g2 hF hfv hcut
      cases hq : wordOk t.data.toList with
      | false =>
        rw [hq] at IW HE
        have HO := hid (hnds_bad l k x HX.out.1 (by rw [HE.out]; rfl))
        clear hq
        go_wp2_with fail
        go_quiet ((go_at_call 68; exact Calls.quiet_of_same (IW.out _)))
        go_wp2_with fail
        go_ret
        exact ⟨ret_bool HO.out.symm, below_dr HW0.out _⟩
      | true =>
        rw [hq] at IW HE
        clear hq
        cases hl : decide (t.data.toList = lastL) with
        | true =>
          rw [hl] at e1 HE
          have HO := hid (hnds_bad l k x HX.out.1 (by rw [HE.out]; rfl))
          clear hl
          go_wp2_with fail
          go_quiet ((go_at_call 68; exact Calls.quiet_of_same (IW.out _)))
          go_wp2_with fail
          go_ret
          exact ⟨ret_bool HO.out.symm, below_dr HW0.out _⟩
        | false =>
          rw [hl] at e1 HE
          clear hl
          have hidx := idx_neg ((hnames l).take k) t.data.toList
          generalize idxL ((hnames l).take k) t.data.toList = z at AT hidx
          by_cases hz : 0 ≤ z
          · have hd : decide (0 ≤ z) = true := by simpa using hz
            have HO := hid (hnds_dup l k _ HX.out.2.1 (Classical.not_not.1 (fun h => by have := hidx.2 h; omega)))
            clear hidx
            go_wp2_with fail
            go_quiet ((first | (go_at_call 68; exact Calls.quiet_of_same (IW.out _)) | (go_at_call 84; exact Calls.quiet_of_same (AT.out _ (below_dr HW0.out _)))))
            go_wp2_with fail
            go_ret
            exact ⟨ret_bool HO.out.symm, below_dr HW0.out _⟩
          · have hd : decide (0 ≤ z) = false := by simpa using hz
            have HS := hid (hidx.1 (by omega))
            clear hidx
            cases hv : lvOk x.h.lv with
            | false =>
              rw [hv] at LV HE
              have HO := hid (hnds_bad l k x HX.out.1 (by rw [HE.out]; rfl))
              clear hv
              go_wp2_with fail
              go_quiet ((first | (go_at_call 68; exact Calls.quiet_of_same (IW.out _)) | (go_at_call 84; exact Calls.quiet_of_same (AT.out _ (below_dr HW0.out _))) | (go_at_call 59; exact Calls.quiet_of_same (LV.out _))))
              go_wp2_with fail
              go_ret
              exact ⟨ret_bool HO.out.symm, below_dr HW0.out _⟩
            | true =>
              rw [hv] at LV HE
              clear hv
              cases hf : filtersOk x.h.fs with
              | false =>
                rw [hf] at VF HE
                have HO := hid (hnds_bad l k x HX.out.1 (by rw [HE.out]; rfl))
                clear hf
                have s0 : (0 : Int) ≤ (k : Int) := by omega
                have s1 : (k : Int) ≤ (c : Int) := by omega
                have s2 : ((k : Int)).toNat = k := by simp
                have s3 : k ≤ c := by omega
                have d0 : (wr.alloc (.cells #[.string t, .int .i64 x.h.lv, .slice A3 x.fn k3] 91)).cell? ⟨wr.heap.size, 0, none⟩ = some (.string t) := cell_of_row _ _ _ _ _ _ (heap_alloc_new wr _)
                have d1 : (wr.alloc (.cells #[.string t, .int .i64 x.h.lv, .slice A3 x.fn k3] 91)).cell? ⟨wr.heap.size, 1, none⟩ = some (.int .i64 x.h.lv) := cell_of_row _ _ _ _ _ _ (heap_alloc_new wr _)
                have d2 : (wr.alloc (.cells #[.string t, .int .i64 x.h.lv, .slice A3 x.fn k3] 91)).cell? ⟨wr.heap.size, 2, none⟩ = some (.slice A3 x.fn k3) := cell_of_row _ _ _ _ _ _ (heap_alloc_new wr _)
                go_wp2_with fail
                go_region_held3 (fun w' => w'.cell? ⟨wr.heap.size, 0, none⟩ = some (.string t) ∧ w'.cell? ⟨wr.heap.size, 1, none⟩ = some (.int .i64 x.h.lv) ∧ w'.cell? ⟨wr.heap.size, 2, none⟩ = some (.slice A3 x.fn k3)) (first | go_keep | exact ⟨(hb9.cell (p := ⟨wr.heap.size, 0, none⟩) (by simp)).trans d0, (hb9.cell (p := ⟨wr.heap.size, 1, none⟩) (by simp)).trans d1, (hb9.cell (p := ⟨wr.heap.size, 2, none⟩) (by simp)).trans d2⟩) (first | (go_at_call 68; refine (IW.out _).mono ?_; rintro e w9 ⟨rfl, rfl⟩) | (go_at_call 84; refine (AT.out _ (by first | exact HW0.out | exact HW0.out.drew | exact HW0.out.drew.drew | exact HW0.out.drew.drew.drew | exact HW0.out.drew.drew.drew.drew | exact HW0.out.drew.drew.drew.drew.drew)).mono ?_; rintro e w9 ⟨rfl, rfl⟩) | (go_at_call 59; refine (LV.out _).mono ?_; rintro e w9 ⟨rfl, rfl⟩) | (go_at_call 86; refine (VF.out _ (by first | exact HW0.out | exact HW0.out.drew | exact HW0.out.drew.drew | exact HW0.out.drew.drew.drew | exact HW0.out.drew.drew.drew.drew | exact HW0.out.drew.drew.drew.drew.drew)).mono ?_; rintro e w9 ⟨rfl, hb9⟩))
                all_goals go_wp2_with fail
                all_goals go_ret
                all_goals exact ⟨ret_bool HO.out.symm, by first | exact HW0.out.trans (hb9.mono HW0.out.size) | exact HW0.out.drew.trans (hb9.mono HW0.out.drew.size)⟩
              | true =>
                rw [hf] at VF HE
                clear hf
                have s0 : (0 : Int) ≤ (k : Int) := by omega
                have s1 : (k : Int) ≤ (c : Int) := by omega
                have s2 : ((k : Int)).toNat = k := by simp
                have s3 : k ≤ c := by omega
                have d0 : (wr.alloc (.cells #[.string t, .int .i64 x.h.lv, .slice A3 x.fn k3] 91)).cell? ⟨wr.heap.size, 0, none⟩ = some (.string t) := cell_of_row _ _ _ _ _ _ (heap_alloc_new wr _)
                have d1 : (wr.alloc (.cells #[.string t, .int .i64 x.h.lv, .slice A3 x.fn k3] 91)).cell? ⟨wr.heap.size, 1, none⟩ = some (.int .i64 x.h.lv) := cell_of_row _ _ _ _ _ _ (heap_alloc_new wr _)
                have d2 : (wr.alloc (.cells #[.string t, .int .i64 x.h.lv, .slice A3 x.fn k3] 91)).cell? ⟨wr.heap.size, 2, none⟩ = some (.slice A3 x.fn k3) := cell_of_row _ _ _ _ _ _ (heap_alloc_new wr _)
                go_wp2_with fail
                go_region_held3 (fun w' => w'.cell? ⟨wr.heap.size, 0, none⟩ = some (.string t) ∧ w'.cell? ⟨wr.heap.size, 1, none⟩ = some (.int .i64 x.h.lv) ∧ w'.cell? ⟨wr.heap.size, 2, none⟩ = some (.slice A3 x.fn k3)) (first | go_keep | exact ⟨(hb9.cell (p := ⟨wr.heap.size, 0, none⟩) (by simp)).trans d0, (hb9.cell (p := ⟨wr.heap.size, 1, none⟩) (by simp)).trans d1, (hb9.cell (p := ⟨wr.heap.size, 2, none⟩) (by simp)).trans d2⟩) (first | (go_at_call 68; refine (IW.out _).mono ?_; rintro e w9 ⟨rfl, rfl⟩) | (go_at_call 84; refine (AT.out _ (by first | exact HW0.out | exact HW0.out.drew | exact HW0.out.drew.drew | exact HW0.out.drew.drew.drew | exact HW0.out.drew.drew.drew.drew | exact HW0.out.drew.drew.drew.drew.drew)).mono ?_; rintro e w9 ⟨rfl, rfl⟩) | (go_at_call 59; refine (LV.out _).mono ?_; rintro e w9 ⟨rfl, rfl⟩) | (go_at_call 86; refine (VF.out _ (by first | exact HW0.out | exact HW0.out.drew | exact HW0.out.drew.drew | exact HW0.out.drew.drew.drew | exact HW0.out.drew.drew.drew.drew | exact HW0.out.drew.drew.drew.drew.drew)).mono ?_; rintro e w9 ⟨rfl, hb9⟩))
                all_goals go_wp2_with fail
                all_goals
                  go_roundw
                  case rel =>
                    refine ⟨k + 1, by go_num, by omega, ⟨?_, nodup_step _ k _ HX.out.2.1 HA.out.2 HS.out⟩, by first | exact HW0.out.trans (hb9.mono HW0.out.size) | exact HW0.out.drew.trans (hb9.mono HW0.out.drew.size)⟩
                    intro y hy
                    rcases mem_take_succ l k x y HX.out.1 hy with rfl | hy
                    · rw [HE.out]; rfl
                    · exact HA.out.1 y hy
                  case measure => simp [intOf]; omega
    · have HO := hid (show hndsOk (hsOf l) = decide ((n : Int) ≤ 6) by
        have h1 := HA.out
        have hln := HV.out.2
        rw [List.take_of_length_le (by omega), List.take_of_length_le (by unfold hnames; simp; omega)] at h1
        unfold hndsOk
        rw [hnames_eq, decide_eq_true h1.2]
        have h3 : (hsOf l).all hndOk = true := by
          rw [List.all_eq_true]; intro y hy
          obtain ⟨x, hx, rfl⟩ := List.mem_map.1 hy
          exact h1.1 x hx
        rw [h3, Bool.true_and, Bool.true_and]
        exact decide_eq_decide.2 (by unfold hsOf; rw [List.length_map]; omega))
      go_wp2_with fail
      go_ret
      exact ⟨ret_bool HO.out.symm, HW.out⟩
end Go.Proofs.Ytlhelhfaogcibaa
