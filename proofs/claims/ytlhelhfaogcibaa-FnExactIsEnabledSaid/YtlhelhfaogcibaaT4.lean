/-
  WALKS: validHandlers, validLoggers, ValidTree of the program.
-/
import Derived.Test.YtlhelhfaogcibaaT3
namespace Go.Proofs.Ytlhelhfaogcibaa
open Go.RowKit Nm
set_option linter.unusedSimpArgs false
set_option linter.unusedVariables false

def hsOf (l : List HndV) : List Hnd := l.map (·.h)
theorem hnames_eq (l : List HndV) : (hsOf l).map (·.nm) = hnames l := by unfold hsOf hnames; rw [List.map_map]; rfl
theorem hnds_bad (l : List HndV) (k : Nat) (x : HndV) (hx : l[k]? = some x) (h : hndOk x.h = false) : hndsOk (hsOf l) = false := by
  cases hn : hndsOk (hsOf l) with
  | false => rfl
  | true =>
    simp only [hndsOk, Bool.and_eq_true, List.all_eq_true] at hn
    have := hn.1 x.h (List.mem_map.2 ⟨x, List.mem_of_getElem? hx, rfl⟩)
    rw [h] at this; cases this
theorem hnds_dup (l : List HndV) (k : Nat) (x : List UInt8) (hx : (hnames l)[k]? = some x) (h : x ∈ (hnames l).take k) : hndsOk (hsOf l) = false := by
  unfold hndsOk
  rw [hnames_eq, decide_eq_false (not_nodup _ k x hx h)]
  simp
theorem hnds_many (l : List HndV) (h : 6 < l.length) : hndsOk (hsOf l) = false := by
  unfold hndsOk
  rw [decide_eq_false (show ¬ (hsOf l).length ≤ 6 by unfold hsOf; simp; omega)]
  simp
theorem hnds_good (l : List HndV) (h : l.length ≤ 6) (h1 : ∀ x ∈ l, hndOk x.h = true) (h2 : (hnames l).Nodup) : hndsOk (hsOf l) = true := by
  unfold hndsOk
  rw [hnames_eq, decide_eq_true h2, decide_eq_true (show (hsOf l).length ≤ 6 by unfold hsOf; simpa using h)]
  simp only [Bool.and_true, List.all_eq_true]
  intro y hy
  obtain ⟨x, hx, rfl⟩ := List.mem_map.1 hy
  exact h1 x hx
theorem last_eq (t : ByteArray) : (t.toList == [108, 97, 115, 116]) = decide (t.data.toList = lastL) := by
  rw [ByteArray.toList_eq]
  show (t.data.toList == lastL) = _
  rw [Bool.eq_iff_iff, beq_iff_eq, decide_eq_true_eq]
theorem mem_take_succ {α : Type} (l : List α) (k : Nat) (x y : α) (h : l[k]? = some x) (hy : y ∈ l.take (k + 1)) : y = x ∨ y ∈ l.take k := by
  rw [List.take_add_one, h] at hy
  rcases List.mem_append.1 hy with hy | hy
  · exact .inr hy
  · exact .inl (by simpa using hy)

set_option maxHeartbeats 4000000 in
set_option maxRecDepth 100000 in
theorem implHandlers_c (v : Value) (n B : Nat) (l : List HndV) (w : World) (hv : Hs w B n v l) (hB : B ≤ w.heap.size) :
    Calls Try.prog 77 #[v] w (BoolPost w (hndsOk (hsOf l))) := by
  have hln := hv.count
  obtain ⟨A, c, rfl, hnc, hcm⟩ := hv.1.form
  unfold maxLen at hcm
  by_cases h6 : (6 : Int) < (n : Int)
  · have HE := hid (hnds_many l (by omega))
    clear hv hln
    go_enter Try.func77, Try.ntmps77
    go_wp2_with fail
    go_ret
    exact ⟨ret_bool HE.out.symm, Below.refl _ _⟩
  have HV := hid (And.intro hv hln)
  clear hv hln
  have hmm := @run_makeMap Try.prog
  go_enter Try.func77, Try.ntmps77
  go_wp2_with fail
  clear hmm
  go_loopw [12] (fun iv wr => ∃ k : Nat, iv = .int .i64 k ∧ k ≤ n ∧ Hid ((∀ x ∈ l.take k, hndOk x.h = true) ∧ ((hnames l).take k).Nodup) ∧ SetM wr w.heap.size k (fun x => decide (x ∈ (hnames l).take k)) ∧ Below w.heap.size w wr) (fun iv _ => n - (intOf iv).toNat)
  case atStart => exact ⟨0, rfl, by omega, ⟨by simp, by simp⟩, set_congr (SetM.made w) (by simp), (Below.refl _ _).alloc (Nat.le_refl _) _⟩
  case round =>
    obtain ⟨k, rfl, hk, HA, hM, hW⟩ := hrel
    by_cases hlt : k < n
    · obtain ⟨b, o, x, t, rfl, hb, hx, ht, hts, hF, g0, g1, g2⟩ := HV.out.1.at_ hlt
      obtain ⟨A3, k3, hfv, _, _⟩ := hF.1.form
      rw [hfv] at g2
      have c0 : wr.cell? ⟨b, o + k * 3, none⟩ = some (.string t) := (hW.cell (p := ⟨b, o + k * 3, none⟩) (by show b < _; omega)).trans g0
      have c1 : wr.cell? ⟨b, o + k * 3 + 1, none⟩ = some (.int .i64 x.h.lv) := (hW.cell (p := ⟨b, o + k * 3 + 1, none⟩) (by show b < _; omega)).trans g1
      have c2 : wr.cell? ⟨b, o + k * 3 + 2, none⟩ = some (.slice A3 x.fn k3) := (hW.cell (p := ⟨b, o + k * 3 + 2, none⟩) (by show b < _; omega)).trans g2
      have hmt : t.size ≤ maxLen := by unfold maxTxt at hts; unfold maxLen; omega
      have hxn : (hnames l)[k]? = some t.data.toList := by unfold hnames; rw [List.getElem?_map, hx, ht]; rfl
      have HX := hid (And.intro hx (And.intro hxn ht))
      have HW0 := hid (hW.alloc hW.size (.cells #[.string t, .int .i64 x.h.lv, .slice A3 x.fn k3] 91))
      have HM0 := hid (hM.alloc' (.cells #[.string t, .int .i64 x.h.lv, .slice A3 x.fn k3] 91))
      have CX := hid (fun (W : World) (hb : Below (wr.alloc (.cells #[.string t, .int .i64 x.h.lv, .slice A3 x.fn k3] 91)).heap.size (wr.alloc (.cells #[.string t, .int .i64 x.h.lv, .slice A3 x.fn k3] 91)) W) (j : Nat) =>
        (hb.cell (p := ⟨wr.heap.size, j, none⟩) (by simp)).trans (cell_of_row _ wr.heap.size j _ _ _ (heap_alloc_new wr _)))
      rw [hfv] at hF
      have HF := hid (And.intro hF hW)
      have IW := hid (fun W => isWord_c t W hmt)
      have LV := hid (fun W => isLevel_c x.h.lv W)
      have HE := hid (show hndOk x.h = (wordOk t.data.toList && (!decide (t.data.toList = lastL) && (lvOk x.h.lv && filtersOk x.h.fs))) by unfold hndOk; rw [ht])
      generalize wordOk t.data.toList = q at IW HE
      clear hx hxn ht g0 g1 g2 hF hfv hM hW
      go_wp2_with fail
      refine (IW.out _).mono ?_
      rintro e w1 ⟨rfl, hb1⟩
      have d0 : w1.cell? ⟨wr.heap.size, 0, none⟩ = some (.string t) := CX.out w1 hb1 0
      have d1 : w1.cell? ⟨wr.heap.size, 1, none⟩ = some (.int .i64 x.h.lv) := CX.out w1 hb1 1
      have d2 : w1.cell? ⟨wr.heap.size, 2, none⟩ = some (.slice A3 x.fn k3) := CX.out w1 hb1 2
      have HW1 := hid (HW0.out.trans (hb1.mono HW0.out.size))
      have HM1 := hid (HM0.out.below hb1)
      have HB1 := hid hb1
      clear hb1 c0 c1 c2
      cases q with
      | false =>
        have HO := hid (hnds_bad l k x HX.out.1 (by rw [HE.out]; rfl))
        go_wp2_with fail
        go_ret
        exact ⟨ret_bool HO.out.symm, HW1.out⟩
      | true =>
        have e1 := last_eq t
        cases hl : decide (t.data.toList = lastL) with
        | true =>
          rw [hl] at e1 HE
          have HO := hid (hnds_bad l k x HX.out.1 (by rw [HE.out]; rfl))
          clear hl
          go_wp2_with fail
          go_ret
          exact ⟨ret_bool HO.out.symm, HW1.out⟩
        | false =>
          rw [hl] at e1 HE
          clear hl
          have hlook := HM1.out.look t hmt
          cases hs : decide (t.data.toList ∈ (hnames l).take k) with
          | true =>
            rw [hs] at hlook
            have HO := hid (hnds_dup l k _ HX.out.2.1 (by simpa using hs))
            clear hs
            go_wp2_with fail
            go_ret
            exact ⟨ret_bool HO.out.symm, HW1.out⟩
          | false =>
            rw [hs] at hlook
            have HS := hid (show t.data.toList ∉ (hnames l).take k by simpa using hs)
            clear hs
            go_wp2_with fail
            refine (LV.out _).mono ?_
            rintro e w2 ⟨rfl, rfl⟩
            clear hlook
            cases hv : lvOk x.h.lv with
            | false =>
              have HO := hid (hnds_bad l k x HX.out.1 (by rw [HE.out, hv]; rfl))
              clear hv
              go_wp2_with fail
              go_ret
              exact ⟨ret_bool HO.out.symm, HW1.out⟩
            | true =>
              rw [hv] at HE
              clear hv
              have VF := hid (implValidFilters_c (.slice A3 x.fn k3) x.fn B x.h.fs w2 (HF.out.1.below HW1.out hB) (by have := HW1.out.size; omega))
              go_wp2_with fail
              refine VF.out.mono ?_
              rintro e w3 ⟨rfl, hb3⟩
              have hB13 := HB1.out.trans (hb3.mono HB1.out.size)
              have d0' : w3.cell? ⟨wr.heap.size, 0, none⟩ = some (.string t) := CX.out w3 hB13 0
              have HW3 := hid (HW1.out.trans (hb3.mono HW1.out.size))
              have HM3 := hid (HM1.out.below hb3)
              clear hb3 d0 d1 d2 hB13
              cases hf : filtersOk x.h.fs with
              | false =>
                have HO := hid (hnds_bad l k x HX.out.1 (by rw [HE.out, hf]; rfl))
                clear hf
                go_wp2_with fail
                go_ret
                exact ⟨ret_bool HO.out.symm, HW3.out⟩
              | true =>
                rw [hf] at HE
                clear hf
                go_wp2_with (at_mapUpdate; refine wpList_setM _ HM3.out rfl _ _ _ rfl rfl (by unfold maxLen; omega) t hmt true rfl rfl ?_)
                intro w4 hM4 hg4
                have HM4 := hid (set_congr hM4 (g := fun y => decide (y ∈ (hnames l).take (k + 1))) (by intro y; rw [Bool.eq_iff_iff]; simp only [take_mem _ _ _ _ HX.out.2.1]; by_cases e : y = t.data.toList <;> simp [e]))
                have HW4 := hid (HW3.out.grown hg4 HW3.out.size (by intro q hq; cases hq; exact Nat.le_refl _))
                clear hM4 hg4 d0'
                go_wp2_with fail
                go_roundw
                case rel =>
                  refine ⟨k + 1, by go_num, by omega, ⟨?_, nodup_step _ k _ HX.out.2.1 HA.out.2 HS.out⟩, HM4.out, HW4.out⟩
                  intro y hy
                  rcases mem_take_succ l k x y HX.out.1 hy with rfl | hy
                  · rw [HE.out]; rfl
                  · exact HA.out.1 y hy
                case measure => simp [intOf]; omega
    · have HO := hid (show hndsOk (hsOf l) = true by
        have h1 := HA.out
        have hln := HV.out.2
        rw [List.take_of_length_le (by omega), List.take_of_length_le (by unfold hnames; simp; omega)] at h1
        exact hnds_good l (by omega) h1.1 h1.2)
      have HW := hid hW
      clear hM hW
      go_wp2_with fail
      go_ret
      exact ⟨ret_bool HO.out.symm, HW.out⟩

def lsOf (l : List LgrV) : List Lgr := l.map (·.l)
theorem lnames_eq (l : List LgrV) : (lsOf l).map (·.nm) = lnames l := by unfold lsOf lnames; rw [List.map_map]; rfl
theorem hasL_eq (hs : List HndV) (x : List UInt8) : hasL (hsOf hs) x = decide (x ∈ hnames hs) := by
  rw [Bool.eq_iff_iff]
  simp only [hasL, hsOf, hnames, List.any_map, List.any_eq_true, decide_eq_true_eq, Function.comp, List.mem_map]
theorem lgr_eq (hs : List HndV) (l : Lgr) : lgrOk (hsOf hs) l = (nameOk l.nm && (lvOk l.lv && (filtersOk l.fs && (l.hs.all (fun x => decide (x ∈ hnames hs)) && decide l.hs.Nodup)))) := by
  unfold lgrOk
  rw [show hasL (hsOf hs) = fun x => decide (x ∈ hnames hs) from funext (hasL_eq hs)]
theorem lgrs_bad (hs : List HndV) (l : List LgrV) (k : Nat) (x : LgrV) (hx : l[k]? = some x) (h : lgrOk (hsOf hs) x.l = false) : lgrsOk (hsOf hs) (lsOf l) = false := by
  cases hn : lgrsOk (hsOf hs) (lsOf l) with
  | false => rfl
  | true =>
    simp only [lgrsOk, Bool.and_eq_true, List.all_eq_true] at hn
    have := hn.1 x.l (List.mem_map.2 ⟨x, List.mem_of_getElem? hx, rfl⟩)
    rw [h] at this; cases this
theorem lgrs_dup (hs : List HndV) (l : List LgrV) (k : Nat) (x : List UInt8) (hx : (lnames l)[k]? = some x) (h : x ∈ (lnames l).take k) : lgrsOk (hsOf hs) (lsOf l) = false := by
  unfold lgrsOk
  rw [lnames_eq, decide_eq_false (not_nodup _ k x hx h)]
  simp
theorem lgrs_len (hs : List HndV) (l : List LgrV) (h : l.length = 0 ∨ 8 < l.length) : lgrsOk (hsOf hs) (lsOf l) = false := by
  unfold lgrsOk
  rcases h with h | h
  · rw [decide_eq_false (show ¬ 1 ≤ (lsOf l).length by unfold lsOf; rw [List.length_map]; omega)]; simp
  · rw [decide_eq_false (show ¬ (lsOf l).length ≤ 8 by unfold lsOf; rw [List.length_map]; omega)]; simp
theorem lgrs_root (hs : List HndV) (l : List LgrV) (x : List UInt8) (h : (lnames l)[0]? = some x) (hx : ¬ x = []) : lgrsOk (hsOf hs) (lsOf l) = false := by
  unfold lgrsOk
  rw [lnames_eq, h, decide_eq_false (show ¬ (some x = some []) by simpa using hx)]; simp
theorem lgrs_good (hs : List HndV) (l : List LgrV) (h0 : 1 ≤ l.length) (h8 : l.length ≤ 8) (hr : (lnames l)[0]? = some []) (h1 : ∀ x ∈ l, lgrOk (hsOf hs) x.l = true) (h2 : (lnames l).Nodup) : lgrsOk (hsOf hs) (lsOf l) = true := by
  unfold lgrsOk
  rw [lnames_eq, hr, decide_eq_true h2, decide_eq_true (show 1 ≤ (lsOf l).length by unfold lsOf; simpa using h0), decide_eq_true (show (lsOf l).length ≤ 8 by unfold lsOf; simpa using h8)]
  simp only [decide_true, Bool.and_true, List.all_eq_true]
  intro y hy
  obtain ⟨x, hx, rfl⟩ := List.mem_map.1 hy
  exact h1 x hx

set_option maxHeartbeats 6000000 in
set_option maxRecDepth 100000 in
theorem implLoggers_c (A1 A2 : Option Addr) (n1 k1 n2 k2 B : Nat) (q : Int) (l : List LgrV) (hs : List HndV) (w : World) (h1 : Ls w B n1 (.slice A1 n1 k1) l) (h2 : Hs w B n2 (.slice A2 n2 k2) hs) (hB : B ≤ w.heap.size) (hb1 : n1 ≤ 1048576) (hb2 : n2 ≤ 1048576) (hbh : ∀ x ∈ l, x.hn ≤ 1048576) :
    Calls Try.prog 78 #[.agg #[.slice A1 n1 k1, .slice A2 n2 k2, .int .i64 q]] w (BoolPost w (lgrsOk (hsOf hs) (lsOf l))) := by
  have c1 := h1.count
  have c2 := h2.count
  have HV := hid (And.intro h1 (And.intro h2 (And.intro c1 (And.intro c2 hbh))))
  have HB0 := hid (show Below w.heap.size w (w.alloc (.cells #[.slice A1 n1 k1, .slice A2 n2 k2, .int .i64 q] 31)) from (Below.refl _ _).alloc (Nat.le_refl _) _)
  clear h1 h2 hbh
  have hmm := @run_makeMap Try.prog
  by_cases hz : n1 = 0
  · have HO := hid (lgrs_len hs l (.inl (by omega)))
    have e0 : ((n1 : Int) == 0) = true := by simp [hz]
    clear c1 c2 hz
    go_enter Try.func78, Try.ntmps78
    go_wp2_with fail
    go_ret
    exact ⟨ret_bool HO.out.symm, HB0.out⟩
  have e0 : ((n1 : Int) == 0) = false := by simp [hz]
  by_cases h8 : (8 : Int) < (n1 : Int)
  · have HO := hid (lgrs_len hs l (.inr (by omega)))
    clear c1 c2 hz
    go_enter Try.func78, Try.ntmps78
    go_wp2_with fail
    go_ret
    exact ⟨ret_bool HO.out.symm, HB0.out⟩
  obtain ⟨b, o, x0, t0, hA, hb, hx0, ht0, hts0, _, _, g0, _⟩ := HV.out.1.at_ (k := 0) (by omega)
  have hx0n : (lnames l)[0]? = some t0.data.toList := by unfold lnames; rw [List.getElem?_map, hx0, ht0]; rfl
  have r0 : (w.alloc (.cells #[.slice A1 n1 k1, .slice A2 n2 k2, .int .i64 q] 31)).cell? ⟨b, o, none⟩ = some (.string t0) := by
    rw [HB0.out.cell (p := ⟨b, o, none⟩) (by show b < _; omega)]; simpa using g0
  subst hA
  clear c1 c2 hx0 ht0 g0
  by_cases hr : t0.data.toList = []
  · have e1 : (!t0.toList.isEmpty) = false := by rw [empty_true hr]; rfl
    have e2 := empty_true hr
    have HR := hid (show (lnames l)[0]? = some [] by rw [hx0n, hr])
    clear hr hx0n
    go_enter Try.func78, Try.ntmps78
    go_wp2_with fail
    clear hmm r0 hb
    have hsz : (w.alloc (.cells #[.slice (some ⟨b, o, none⟩) n1 k1, .slice A2 n2 k2, .int .i64 q] 31)).heap.size = w.heap.size + 1 := by simp
    have HSZ := hid hsz
    have BX := hid (fun (W : World) (hW : Below (w.heap.size + 1) (w.alloc (.cells #[.slice (some ⟨b, o, none⟩) n1 k1, .slice A2 n2 k2, .int .i64 q] 31)) W) => (hW.cell (p := ⟨w.heap.size, 1, none⟩) (by show w.heap.size < _; omega)).trans (cell_of_row _ w.heap.size 1 _ _ _ (heap_alloc_new w _)))
    have BW := hid (fun (W : World) (hW : Below (w.heap.size + 1) (w.alloc (.cells #[.slice (some ⟨b, o, none⟩) n1 k1, .slice A2 n2 k2, .int .i64 q] 31)) W) => HB0.out.trans (hW.mono (by omega)))
    clear hsz
    go_loopw [28] (fun iv wr => ∃ k : Nat, iv = .int .i64 k ∧ k ≤ n1 ∧ Hid ((∀ x ∈ l.take k, lgrOk (hsOf hs) x.l = true) ∧ ((lnames l).take k).Nodup) ∧ SetM wr (w.heap.size + 1) k (fun x => decide (x ∈ (lnames l).take k)) ∧ Hid (Below (w.heap.size + 1) (w.alloc (.cells #[.slice (some ⟨b, o, none⟩) n1 k1, .slice A2 n2 k2, .int .i64 q] 31)) wr)) (fun iv _ => n1 - (intOf iv).toNat)
    case atStart =>
      refine ⟨0, rfl, by omega, ⟨by simp, by simp⟩, set_congr (f := fun _ => false) ?_ (by simp), (Below.refl _ _).alloc (by simp) _⟩
      have := SetM.made (w.alloc (.cells #[.slice (some ⟨b, o, none⟩) n1 k1, .slice A2 n2 k2, .int .i64 q] 31))
      rwa [HSZ.out] at this
    case round =>
      obtain ⟨k, rfl, hk, HA, hM, HW⟩ := hrel
      by_cases hlt : k < n1
      · have hW := BW.out _ HW.out
        obtain ⟨b', o', x, t, hA', hb', hx, ht, hts, hH, hF, g0, g1, g2, g3, g4, g5⟩ := HV.out.1.at_ hlt
        obtain ⟨rfl, rfl⟩ : b = b' ∧ o = o' := by simpa using hA'
        obtain ⟨A3, k3, hhv, _, _⟩ := hH.1.form
        obtain ⟨A4, k4, hfv, _, _⟩ := hF.1.form
        rw [hhv] at g2
        rw [hfv] at g3
        have c0 : wr.cell? ⟨b, o + k * 6, none⟩ = some (.string t) := (hW.cell (p := ⟨b, o + k * 6, none⟩) (by show b < _; omega)).trans g0
        have c1 : wr.cell? ⟨b, o + k * 6 + 1, none⟩ = some (.int .i64 x.l.lv) := (hW.cell (p := ⟨b, o + k * 6 + 1, none⟩) (by show b < _; omega)).trans g1
        have c2 : wr.cell? ⟨b, o + k * 6 + 2, none⟩ = some (.slice A3 x.hn k3) := (hW.cell (p := ⟨b, o + k * 6 + 2, none⟩) (by show b < _; omega)).trans g2
        have c3 : wr.cell? ⟨b, o + k * 6 + 3, none⟩ = some (.slice A4 x.fn k4) := (hW.cell (p := ⟨b, o + k * 6 + 3, none⟩) (by show b < _; omega)).trans g3
        have c4 : wr.cell? ⟨b, o + k * 6 + 4, none⟩ = some (.bool x.l.stop) := (hW.cell (p := ⟨b, o + k * 6 + 4, none⟩) (by show b < _; omega)).trans g4
        have c5 : wr.cell? ⟨b, o + k * 6 + 5, none⟩ = some (.bool x.l.off) := (hW.cell (p := ⟨b, o + k * 6 + 5, none⟩) (by show b < _; omega)).trans g5
        have hmt : t.size ≤ maxLen := by unfold maxTxt at hts; unfold maxLen; omega
        have hxn : (lnames l)[k]? = some t.data.toList := by unfold lnames; rw [List.getElem?_map, hx, ht]; rfl
        have hhn := HV.out.2.2.2.2 x (List.mem_of_getElem? hx)
        have HX := hid (And.intro hx (And.intro hxn ht))
        have hszr : w.heap.size + 1 ≤ wr.heap.size := by have := HW.out.size; have := HSZ.out; omega
        have HW0 := hid (HW.out.alloc hszr (.cells #[.string t, .int .i64 x.l.lv, .slice A3 x.hn k3, .slice A4 x.fn k4, .bool x.l.stop, .bool x.l.off] 55))
        have HM0 := hid (hM.alloc' (.cells #[.string t, .int .i64 x.l.lv, .slice A3 x.hn k3, .slice A4 x.fn k4, .bool x.l.stop, .bool x.l.off] 55))
        have CX := hid (fun (W : World) (hb : Below (wr.alloc (.cells #[.string t, .int .i64 x.l.lv, .slice A3 x.hn k3, .slice A4 x.fn k4, .bool x.l.stop, .bool x.l.off] 55)).heap.size (wr.alloc (.cells #[.string t, .int .i64 x.l.lv, .slice A3 x.hn k3, .slice A4 x.fn k4, .bool x.l.stop, .bool x.l.off] 55)) W) (j : Nat) => (hb.cell (p := ⟨wr.heap.size, j, none⟩) (by simp)).trans (cell_of_row _ wr.heap.size j _ _ _ (heap_alloc_new wr _)))
        rw [hfv] at hF
        rw [hhv] at hH
        have HF := hid (And.intro hF (And.intro hH hW))
        have IW := hid (fun W => implValidName_c t W hmt)
        have LV := hid (fun W => isLevel_c x.l.lv W)
        have HE := hid (lgr_eq hs x.l)
        rw [← ht] at HE
        generalize nameOk t.data.toList = p at IW HE
        clear hx hxn ht g0 g1 g2 g3 g4 g5 hF hH hfv hhv hM hW hA' hb'
        go_wp2_with fail
        refine (IW.out _).mono ?_
        rintro e w1 ⟨rfl, hb1⟩
        have d0 : w1.cell? ⟨wr.heap.size, 0, none⟩ = some (.string t) := CX.out w1 hb1 0
        have d1 : w1.cell? ⟨wr.heap.size, 1, none⟩ = some (.int .i64 x.l.lv) := CX.out w1 hb1 1
        have d2 : w1.cell? ⟨wr.heap.size, 2, none⟩ = some (.slice A3 x.hn k3) := CX.out w1 hb1 2
        have d3 : w1.cell? ⟨wr.heap.size, 3, none⟩ = some (.slice A4 x.fn k4) := CX.out w1 hb1 3
        have HW1 := hid (HW0.out.trans (hb1.mono (by simp; omega)))
        have HM1 := hid (HM0.out.below hb1)
        have HB1 := hid hb1
        clear hb1 c0 c1 c2 c3 c4 c5
        cases p with
        | false =>
          have HO := hid (lgrs_bad hs l k x HX.out.1 (by rw [HE.out]; rfl))
          go_wp2_with fail
          go_ret
          exact ⟨ret_bool HO.out.symm, BW.out _ HW1.out⟩
        | true =>
          have hlook := HM1.out.look t hmt
          cases hsn : decide (t.data.toList ∈ (lnames l).take k) with
          | true =>
            rw [hsn] at hlook
            have HO := hid (lgrs_dup hs l k _ HX.out.2.1 (by simpa using hsn))
            clear hsn
            go_wp2_with fail
            go_ret
            exact ⟨ret_bool HO.out.symm, BW.out _ HW1.out⟩
          | false =>
            rw [hsn] at hlook
            have HS := hid (show t.data.toList ∉ (lnames l).take k by simpa using hsn)
            clear hsn
            go_wp2_with fail
            refine (LV.out _).mono ?_
            rintro e w2 ⟨rfl, rfl⟩
            clear hlook
            cases hv : lvOk x.l.lv with
            | false =>
              have HO := hid (lgrs_bad hs l k x HX.out.1 (by rw [HE.out, hv]; rfl))
              clear hv
              go_wp2_with fail
              go_ret
              exact ⟨ret_bool HO.out.symm, BW.out _ HW1.out⟩
            | true =>
              rw [hv] at HE
              clear hv
              have hbw1 := BW.out _ HW1.out
              have VF := hid (implValidFilters_c (.slice A4 x.fn k4) x.fn B x.l.fs w2 (HF.out.1.below hbw1 hB) (by have := hbw1.size; omega))
              clear hbw1
              go_wp2_with fail
              refine VF.out.mono ?_
              rintro e w3 ⟨rfl, hb3⟩
              have hB13 := HB1.out.trans (hb3.mono HB1.out.size)
              have d0' : w3.cell? ⟨wr.heap.size, 0, none⟩ = some (.string t) := CX.out w3 hB13 0
              have d2' : w3.cell? ⟨wr.heap.size, 2, none⟩ = some (.slice A3 x.hn k3) := CX.out w3 hB13 2
              have HW3 := hid (HW1.out.trans (hb3.mono (by have := HW1.out.size; have := HSZ.out; omega)))
              have bx : w3.cell? ⟨w.heap.size, 1, none⟩ = some (.slice A2 n2 k2) := BX.out _ HW3.out
              have HM3 := hid (HM1.out.below hb3)
              have HB3 := hid hB13
              clear hb3 d0 d1 d2 d3 hB13
              cases hf : filtersOk x.l.fs with
              | false =>
                have HO := hid (lgrs_bad hs l k x HX.out.1 (by rw [HE.out, hf]; rfl))
                clear hf
                go_wp2_with fail
                go_ret
                exact ⟨ret_bool HO.out.symm, BW.out _ HW3.out⟩
              | true =>
                rw [hf] at HE
                clear hf
                have hbw3 := BW.out _ HW3.out
                have DH := hid (different_c (.slice A3 x.hn k3) (.slice A2 n2 k2) x.hn n2 B x.l.hs hs w3 (HF.out.2.1.below hbw3 hB) (HV.out.2.1.below hbw3 hB) (by have := hbw3.size; omega) hhn hb2)
                generalize (x.l.hs.all (fun y => decide (y ∈ hnames hs)) && decide x.l.hs.Nodup) = r at DH HE
                clear hbw3
                go_wp2_with fail
                refine DH.out.mono ?_
                rintro e w4 ⟨rfl, hb4⟩
                have d0'' : w4.cell? ⟨wr.heap.size, 0, none⟩ = some (.string t) := CX.out w4 (HB3.out.trans (hb4.mono HB3.out.size)) 0
                have HW4 := hid (HW3.out.trans (hb4.mono (by have := HW3.out.size; have := HSZ.out; omega)))
                have HM4 := hid (HM3.out.below hb4)
                clear hb4 d0' d2' bx
                cases r with
                | false =>
                  have HO := hid (lgrs_bad hs l k x HX.out.1 (by rw [HE.out]; rfl))
                  go_wp2_with fail
                  go_ret
                  exact ⟨ret_bool HO.out.symm, BW.out _ HW4.out⟩
                | true =>
                  go_wp2_with (at_mapUpdate; refine wpList_setM _ HM4.out rfl _ _ _ rfl rfl (by unfold maxLen; omega) t hmt true rfl rfl ?_)
                  intro w5 hM5 hg5
                  have HM5 := hid (set_congr hM5 (g := fun y => decide (y ∈ (lnames l).take (k + 1))) (by intro y; rw [Bool.eq_iff_iff]; simp only [take_mem _ _ _ _ HX.out.2.1]; by_cases e : y = t.data.toList <;> simp [e]))
                  have HW5 := hid (HW4.out.grown hg5 (by have := HW4.out.size; have := HSZ.out; omega) (by intro q hq; cases hq; exact Nat.le_refl _))
                  clear hM5 hg5 d0''
                  go_wp2_with fail
                  go_roundw
                  case rel =>
                    refine ⟨k + 1, by go_num, by omega, ⟨?_, nodup_step _ k _ HX.out.2.1 HA.out.2 HS.out⟩, HM5.out, HW5.out⟩
                    intro y hy
                    rcases mem_take_succ l k x y HX.out.1 hy with rfl | hy
                    · rw [HE.out]; rfl
                    · exact HA.out.1 y hy
                  case measure => simp [intOf]; omega
      · have HO := hid (show lgrsOk (hsOf hs) (lsOf l) = true by
          have h1 := HA.out
          have hln := HV.out.2.2.1
          rw [List.take_of_length_le (by omega), List.take_of_length_le (by unfold lnames; simp; omega)] at h1
          exact lgrs_good hs l (by omega) (by omega) HR.out h1.1 h1.2)
        clear hM
        go_wp2_with fail
        go_ret
        exact ⟨ret_bool HO.out.symm, BW.out _ HW.out⟩
  · have e1 : (!t0.toList.isEmpty) = true := by rw [empty_false hr]; rfl
    have e2 := empty_false hr
    have HO := hid (lgrs_root hs l _ hx0n hr)
    clear hr hx0n
    go_enter Try.func78, Try.ntmps78
    go_wp2_with fail
    go_ret
    exact ⟨ret_bool HO.out.symm, HB0.out⟩
end Go.Proofs.Ytlhelhfaogcibaa
