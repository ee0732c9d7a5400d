/-
  WALKS: validLogger of the model.
-/
import Derived.Test.YtlhelhfaogcibaaT6
namespace Go.Proofs.Ytlhelhfaogcibaa
open Go.RowKit Nm
set_option linter.unusedSimpArgs false
set_option linter.unusedVariables false

theorem Txts.cut {w : World} {B n c : Nat} {A : Option Addr} {l : List (List UInt8)} (h : Txts w B n (.slice A n c) l) {k : Nat} (hk : k ≤ n) : Txts w B k (.slice A k c) (l.take k) := by
  have hl := h.count
  obtain ⟨⟨hl3, A', c', he, h2, h3, h4⟩, h5⟩ := h
  obtain ⟨rfl, rfl⟩ : A = A' ∧ c = c' := by simpa using he
  refine ⟨⟨by rw [List.length_map, List.length_take]; omega, A, c, rfl, by omega, h3, fun h0 => ?_⟩, fun x hx => h5 x (List.mem_of_mem_take hx)⟩
  obtain ⟨b, o, e, hb, hc⟩ := h4 (by omega)
  refine ⟨b, o, e, hb, fun j u hu => hc j u ?_⟩
  rw [List.map_take, List.getElem?_take] at hu
  by_cases hj : j < k
  · rwa [if_pos hj] at hu
  · rw [if_neg hj] at hu; cases hu
theorem mem_le {w : World} {B n : Nat} {v : Value} {l : List (List UInt8)} (h : Txts w B n v l) {k : Nat} {t : ByteArray} (hx : l[k]? = some t.data.toList) : t.size ≤ maxTxt := by
  rw [Lib.size_eq]; exact h.2 _ (List.mem_of_getElem? hx)
theorem lgr_ref (hs : List HndV) (l : Lgr) (k : Nat) (x : List UInt8) (hx : l.hs[k]? = some x) (h : x ∉ hnames hs) : lgrOk (hsOf hs) l = false := by
  rw [lgr_eq]
  have : l.hs.all (fun x => decide (x ∈ hnames hs)) = false := by
    rw [Bool.eq_false_iff]; intro hn
    rw [List.all_eq_true] at hn
    exact h (by simpa using hn x (List.mem_of_getElem? hx))
  rw [this]; simp
theorem lgr_dup (hs : List HndV) (l : Lgr) (k : Nat) (x : List UInt8) (hx : l.hs[k]? = some x) (h : x ∈ l.hs.take k) : lgrOk (hsOf hs) l = false := by
  rw [lgr_eq, decide_eq_false (not_nodup _ k x hx h)]; simp
theorem lgr_rest (hs : List HndV) (l : Lgr) (h1 : ∀ x ∈ l.hs, x ∈ hnames hs) (h2 : l.hs.Nodup) : lgrOk (hsOf hs) l = (nameOk l.nm && (lvOk l.lv && filtersOk l.fs)) := by
  have : l.hs.all (fun x => decide (x ∈ hnames hs)) = true := by rw [List.all_eq_true]; intro x hx; simpa using h1 x hx
  rw [lgr_eq, this, decide_eq_true h2]; simp

set_option maxHeartbeats 6000000 in
set_option maxRecDepth 100000 in
theorem specLogger_c (s : ByteArray) (g : Lgr) (A3 A4 : Option Addr) (hn k3 fn k4 n2 B : Nat) (v2 : Value) (hs : List HndV) (w : World) (hg : s.data.toList = g.nm) (hsz : s.size ≤ maxTxt)
    (hH : Txts w B hn (.slice A3 hn k3) g.hs) (hF : Fs w B fn (.slice A4 fn k4) g.fs) (h2 : Hs w B n2 v2 hs) (hB : B ≤ w.heap.size) :
    Calls Try.prog 65 #[.agg #[.string s, .int .i64 g.lv, .slice A3 hn k3, .slice A4 fn k4, .bool g.stop, .bool g.off], v2] w (BoolPost w (lgrOk (hsOf hs) g)) := by
  have c2 := h2.count
  have hcn := hH.count
  obtain ⟨A3', k3', he3, hnk, hkm⟩ := hH.1.form
  obtain ⟨rfl, rfl⟩ : A3 = A3' ∧ k3 = k3' := by simpa using he3
  unfold maxLen at hkm
  obtain ⟨A2, k2, rfl, _, _⟩ := h2.1.form
  have HV := hid (And.intro hH (And.intro hF (And.intro h2 (And.intro hg hsz))))
  have HB0 := hid (show Below w.heap.size w (w.alloc (.cells #[.string s, .int .i64 g.lv, .slice A3 hn k3, .slice A4 fn k4, .bool g.stop, .bool g.off] 55)) from (Below.refl _ _).alloc (Nat.le_refl _) _)
  have HSZ := hid (show (w.alloc (.cells #[.string s, .int .i64 g.lv, .slice A3 hn k3, .slice A4 fn k4, .bool g.stop, .bool g.off] 55)).heap.size = w.heap.size + 1 by simp)
  have BX := hid (fun (W : World) (hW : Below (w.heap.size + 1) (w.alloc (.cells #[.string s, .int .i64 g.lv, .slice A3 hn k3, .slice A4 fn k4, .bool g.stop, .bool g.off] 55)) W) (j : Nat) => (hW.cell (p := ⟨w.heap.size, j, none⟩) (by show w.heap.size < _; omega)).trans (cell_of_row _ w.heap.size j _ _ _ (heap_alloc_new w _)))
  have BW := hid (fun (W : World) (hW : Below (w.heap.size + 1) (w.alloc (.cells #[.string s, .int .i64 g.lv, .slice A3 hn k3, .slice A4 fn k4, .bool g.stop, .bool g.off] 55)) W) => HB0.out.trans (hW.mono (by omega)))
  have VN := hid (fun W => validName_c s W (by unfold maxTxt at hsz; omega))
  have LV := hid (fun W => inRange_c g.lv 0 60 W)
  have VF := hid (fun (W : World) (hW : Below w.heap.size w W) => validFilters_c (.slice A4 fn k4) fn B g.fs W (hF.below hW hB) (by have := hW.size; omega))
  have AT := hid (fun (t : ByteArray) (W : World) (hW : Below w.heap.size w W) => handlerAt_c (.slice A2 n2 k2) n2 B hs t W (h2.below hW hB))
  have HT := hid (fun (k : Nat) (hk : k ≤ hn) (t : ByteArray) (W : World) (hW : Below w.heap.size w W) => hasText_c (.slice A3 k k3) k B (g.hs.take k) t W ((hH.cut hk).below hW hB))
  rw [lv_range] at LV
  rw [hg] at VN
  clear hH hF h2 hg hsz
  go_enter Try.func65, Try.ntmps65
  go_wp2_with fail
  go_loopw [5] (fun iv wr => ∃ k : Nat, iv = .int .i64 k ∧ k ≤ hn ∧ Hid ((∀ x ∈ g.hs.take k, x ∈ hnames hs) ∧ (g.hs.take k).Nodup) ∧ Hid (Below (w.heap.size + 1) (w.alloc (.cells #[.string s, .int .i64 g.lv, .slice A3 hn k3, .slice A4 fn k4, .bool g.stop, .bool g.off] 55)) wr)) (fun iv _ => hn - (intOf iv).toNat)
  case atStart => exact ⟨0, rfl, by omega, ⟨by simp, by simp⟩, Below.refl _ _⟩
  case round =>
    obtain ⟨k, rfl, hk, HA, HW⟩ := hrel
    have hW := BW.out _ HW.out
    have d0 : wr.cell? ⟨w.heap.size, 0, none⟩ = some (.string s) := BX.out _ HW.out 0
    have d1 : wr.cell? ⟨w.heap.size, 1, none⟩ = some (.int .i64 g.lv) := BX.out _ HW.out 1
    have d2 : wr.cell? ⟨w.heap.size, 2, none⟩ = some (.slice A3 hn k3) := BX.out _ HW.out 2
    have d3 : wr.cell? ⟨w.heap.size, 3, none⟩ = some (.slice A4 fn k4) := BX.out _ HW.out 3
    by_cases hlt : k < hn
    · obtain ⟨b, o, t, rfl, hb, hx, hts, g0⟩ := HV.out.1.text hlt
      have c0 : wr.cell? ⟨b, o + k, none⟩ = some (.string t) := (hW.cell (p := ⟨b, o + k, none⟩) (by show b < _; omega)).trans g0
      have AT1 := hid (AT.out t)
      have HT1 := hid (HT.out k hk t)
      have HX := hid hx
      have HW' := hid hW
      clear hx g0 hW
      have s0 : (0 : Int) ≤ (k : Int) := by omega
      have s1 : (k : Int) ≤ (k3 : Int) := by omega
      have s2 : ((k : Int)).toNat = k := by simp
      have s3 : k ≤ k3 := by omega
      have hidx := idx_neg (hnames hs) t.data.toList
      generalize idxL (hnames hs) t.data.toList = z at AT1 hidx
      by_cases hz : z < 0
      · have hd : decide (z < 0) = true := by simpa using hz
        have HO := hid (lgr_ref hs g k _ HX.out (hidx.1 hz))
        clear hidx
        go_wp2_with fail
        go_quiet ((first | (go_at_call 84; exact Calls.quiet_of_same (AT1.out _ (below_dr HW'.out _))) | (go_at_call 85; exact Calls.quiet_of_same (HT1.out _ (below_dr HW'.out _)))))
        go_wp2_with fail
        go_ret
        exact ⟨ret_bool HO.out.symm, below_dr HW'.out _⟩
      · have hd : decide (z < 0) = false := by simpa using hz
        have HS := hid (Classical.not_not.1 (fun h => hz (hidx.2 h)))
        clear hidx
        cases hm : decide (t.data.toList ∈ g.hs.take k) with
        | true =>
          rw [hm] at HT1
          have HO := hid (lgr_dup hs g k _ HX.out (by simpa using hm))
          clear hm
          go_wp2_with fail
          go_quiet ((first | (go_at_call 84; exact Calls.quiet_of_same (AT1.out _ (below_dr HW'.out _))) | (go_at_call 85; exact Calls.quiet_of_same (HT1.out _ (below_dr HW'.out _)))))
          go_wp2_with fail
          go_ret
          exact ⟨ret_bool HO.out.symm, below_dr HW'.out _⟩
        | false =>
          rw [hm] at HT1
          have HM := hid (of_decide_eq_false hm)
          clear hm
          go_wp2_with fail
          go_quiet ((first | (go_at_call 84; exact Calls.quiet_of_same (AT1.out _ (below_dr HW'.out _))) | (go_at_call 85; exact Calls.quiet_of_same (HT1.out _ (below_dr HW'.out _)))))
          go_wp2_with fail
          go_roundw
          case rel =>
            refine ⟨k + 1, by go_num, by omega, ⟨?_, nodup_step _ k _ HX.out HA.out.2 HM.out⟩, below_dr HW.out _⟩
            intro y hy
            rcases mem_take_succ g.hs k _ y HX.out hy with rfl | hy
            · exact HS.out
            · exact HA.out.1 y hy
          case measure => simp [intOf]; omega
    · have HO := hid (lgr_rest hs g (by have := HA.out.1; rwa [List.take_of_length_le (by omega)] at this) (by have := HA.out.2; rwa [List.take_of_length_le (by omega)] at this))
      have hszr : w.heap.size + 1 ≤ wr.heap.size := by have := HW.out.size; have := HSZ.out; omega
      have HZ := hid hszr
      have HW' := hid hW
      clear hW hszr
      generalize nameOk g.nm = a at VN HO
      generalize lvOk g.lv = e1 at LV HO
      generalize filtersOk g.fs = e2 at VF HO
      clear d0 d1 d2 d3
      have d0 : wr.cell? ⟨w.heap.size, 0, none⟩ = some (.string s) := BX.out _ HW.out 0
      have d2 : wr.cell? ⟨w.heap.size, 2, none⟩ = some (.slice A3 hn k3) := BX.out _ HW.out 2
      go_wp2_with fail
      refine (VN.out wr).mono ?_
      rintro e w1 ⟨rfl, hb1⟩
      have HW1 := hid (HW.out.trans (hb1.mono (by have := HZ.out; omega)))
      have d1 : w1.cell? ⟨w.heap.size, 1, none⟩ = some (.int .i64 g.lv) := BX.out _ HW1.out 1
      have d3 : w1.cell? ⟨w.heap.size, 3, none⟩ = some (.slice A4 fn k4) := BX.out _ HW1.out 3
      clear hb1 d0 d2
      cases a with
      | false =>
        go_wp2_with fail
        go_ret
        exact ⟨ret_bool (by rw [HO.out]; rfl), BW.out _ HW1.out⟩
      | true =>
        go_wp2_with fail
        refine (LV.out w1).mono ?_
        rintro e w2 ⟨rfl, rfl⟩
        cases e1 with
        | false =>
          go_wp2_with fail
          go_ret
          exact ⟨ret_bool (by rw [HO.out]; rfl), BW.out _ HW1.out⟩
        | true =>
          go_wp2_with fail
          refine (VF.out _ (BW.out _ HW1.out)).mono ?_
          rintro e w3 ⟨rfl, hb3⟩
          have HW3 := hid ((BW.out _ HW1.out).trans (hb3.mono (BW.out _ HW1.out).size))
          clear hb3
          cases e2 with
          | false =>
            go_wp2_with fail
            go_ret
            exact ⟨ret_bool (by rw [HO.out]; rfl), HW3.out⟩
          | true =>
            go_wp2_with fail
            go_ret
            exact ⟨ret_bool (by rw [HO.out]; rfl), HW3.out⟩
end Go.Proofs.Ytlhelhfaogcibaa
