/-
  WALKS: the law FnExactValidFilters, and what it calls (szFilter, szFilterS, toFilter, toFilterS, eqFilter, eqFilterS).
-/
import Derived.Test.YtlhelhfaogcibaaW14
import Derived.Deep.RegionWith
namespace Go.Proofs.Ytlhelhfaogcibaa
open Go.RowKit Nm
set_option linter.unusedSimpArgs false
set_option linter.unusedVariables false

/-- a slice of filters, element by element -/
theorem Sl.flt {w : World} {B n c : Nat} {A : Option Addr} {l : List Flt} (h : Sl w B 3 n (.slice A n c) (fsCells l)) {k : Nat} (hk : k < n) :
    ∃ b o f s, A = some ⟨b, o, none⟩ ∧ b < B ∧ l[k]? = some f ∧ s.data.toList = f.nm ∧ w.cell? ⟨b, o + k * 3, none⟩ = some (.int .i64 f.k) ∧ w.cell? ⟨b, o + k * 3 + 1, none⟩ = some (.string s) ∧ w.cell? ⟨b, o + k * 3 + 2, none⟩ = some (.int .i64 f.n) := by
  have hl : l.length = n := by have := h.1; rw [fsCells_len] at this; omega
  obtain ⟨hl3, A', c', he, h2, h3, h4⟩ := h
  obtain ⟨rfl, rfl⟩ : A = A' ∧ c = c' := by simpa using he
  obtain ⟨b, o, e, hb, hc⟩ := h4 (by omega)
  have hf : l[k]? = some (l[k]'(by omega)) := List.getElem?_eq_getElem (by omega)
  generalize l[k]'(by omega) = f at hf
  have g0 := hc (k * 3 + 0) (.int .i64 f.k) (by rw [fsCells_at l k 0 f hf (by omega)]; rfl)
  have g1 := hc (k * 3 + 1) (txt f.nm) (by rw [fsCells_at l k 1 f hf (by omega)]; rfl)
  have g2 := hc (k * 3 + 2) (.int .i64 f.n) (by rw [fsCells_at l k 2 f hf (by omega)]; rfl)
  refine ⟨b, o, f, ⟨f.nm.toArray⟩, e, hb, hf, by simp, ?_, ?_, ?_⟩
  · rw [← g0]; rfl
  · rw [show o + k * 3 + 1 = o + (k * 3 + 1) from by omega, g1]; rfl
  · rw [show o + k * 3 + 2 = o + (k * 3 + 2) from by omega, g2]
theorem Sl.flen {w : World} {B n : Nat} {v : Value} {l : List Flt} (h : Sl w B 3 n v (fsCells l)) : l.length = n := by
  have := h.1; rw [fsCells_len] at this; omega

def SzOne (left : Int) (len : Nat) (w : World) (e : Ending) (w' : World) : Prop :=
  ∃ r : Int, e = .returned (.int .i64 r) ∧ Below w.heap.size w w' ∧ (r < 0 ∨ (0 ≤ r ∧ r ≤ left ∧ (len : Int) ≤ left))

set_option maxHeartbeats 1000000 in
set_option maxRecDepth 100000 in
theorem szFilter_c (k n left : Int) (s : ByteArray) (w : World) (hs : s.size ≤ maxLen) (h0 : 0 ≤ left) (h1 : left ≤ 1048576) :
    Calls Try.prog 98 #[.agg #[.int .i64 k, .string s, .int .i64 n], .int .i64 left] w (SzOne left s.size w) := by
  unfold maxLen at hs
  have HB := hid (show Below w.heap.size w (w.alloc (.cells #[.int .i64 k, .string s, .int .i64 n] 118)) from (Below.refl _ _).alloc (Nat.le_refl _) _)
  by_cases hl : left - (s.size : Int) < 0
  · go_enter Try.func98, Try.ntmps98
    go_wp2_with fail
    go_ret
    exact ⟨_, rfl, HB.out, .inl (by omega)⟩
  · go_enter Try.func98, Try.ntmps98
    go_wp2_with fail
    go_ret
    exact ⟨_, rfl, HB.out, .inr ⟨by omega, by omega, by omega⟩⟩

def SzAll (left : Int) (l : List Flt) (w : World) (e : Ending) (w' : World) : Prop :=
  ∃ r : Int, e = .returned (.int .i64 r) ∧ Below w.heap.size w w' ∧ (r < 0 ∨ (0 ≤ r ∧ r ≤ left ∧ (l.length : Int) ≤ left ∧ ∀ f ∈ l, (f.nm.length : Int) ≤ left))

set_option maxHeartbeats 2000000 in
set_option maxRecDepth 100000 in
theorem szFilterS_c (v : Value) (n B : Nat) (l : List Flt) (left : Int) (w : World) (hv : Sl w B 3 n v (fsCells l)) (hB : B ≤ w.heap.size) (hm : ∀ f ∈ l, f.nm.length ≤ maxLen) (h0 : 0 ≤ left) (h1 : left ≤ 1048576) :
    Calls Try.prog 83 #[v, .int .i64 left] w (SzAll left l w) := by
  have hln := hv.flen
  obtain ⟨A, c, rfl, hnc, hcm⟩ := hv.form
  unfold maxLen at hcm
  have HV := hid (And.intro hv (And.intro hm hln))
  clear hv hm hln
  by_cases hl : left - (n : Int) < 0
  · go_enter Try.func83, Try.ntmps83
    go_wp2_with fail
    go_ret
    exact ⟨_, rfl, Below.refl _ _, .inl (by omega)⟩
  go_enter Try.func83, Try.ntmps83
  go_wp2_with fail
  go_loopw [1, 5] (fun lv iv wr => ∃ (k : Nat) (q : Int), iv = .int .i64 k ∧ lv = .int .i64 q ∧ k ≤ n ∧ 0 ≤ q ∧ q ≤ left ∧ Hid (∀ f ∈ l.take k, (f.nm.length : Int) ≤ left) ∧ Hid (Below w.heap.size w wr)) (fun _ iv _ => n - (intOf iv).toNat)
  case atStart => exact ⟨0, _, rfl, rfl, by omega, by omega, by omega, by intro f hf; simp at hf, Below.refl _ _⟩
  case round =>
    obtain ⟨k, q, rfl, rfl, hk, hq0, hq1, HL, HB⟩ := hrel
    by_cases hlt : k < n
    · obtain ⟨b, o, f, s, rfl, hbB, hf, hfs, g0, g1, g2⟩ := HV.out.1.flt hlt
      have c0 : wr.cell? ⟨b, o + k * 3, none⟩ = some (.int .i64 f.k) := (HB.out.cell (p := ⟨b, o + k * 3, none⟩) (by show b < _; omega)).trans g0
      have c1 : wr.cell? ⟨b, o + k * 3 + 1, none⟩ = some (.string s) := (HB.out.cell (p := ⟨b, o + k * 3 + 1, none⟩) (by show b < _; omega)).trans g1
      have c2 : wr.cell? ⟨b, o + k * 3 + 2, none⟩ = some (.int .i64 f.n) := (HB.out.cell (p := ⟨b, o + k * 3 + 2, none⟩) (by show b < _; omega)).trans g2
      have hcall := hid (fun W => szFilter_c f.k f.n q s W (by rw [Lib.size_eq, hfs]; exact HV.out.2.1 f (List.mem_of_getElem? hf)) hq0 (by omega))
      have hss : s.size = f.nm.length := by rw [Lib.size_eq, hfs]
      have HF := hid (And.intro hf hss)
      clear hf hfs hss g0 g1 g2
      go_wp2_with fail
      refine (hcall.out _).mono ?_
      rintro e w1 ⟨r, rfl, hb, hr⟩
      have HB1 := hid (HB.out.trans (hb.mono HB.out.size))
      clear hb
      rcases hr with hr | ⟨hr0, hr1, hr2⟩
      · go_wp2_with fail
        go_ret
        exact ⟨_, rfl, HB1.out, .inl (by omega)⟩
      · go_wp2_with fail
        go_roundw
        case rel =>
          refine ⟨k + 1, r, by go_num, rfl, by omega, hr0, by omega, ?_, HB1.out⟩
          intro g hg
          rw [List.take_add_one, HF.out.1] at hg
          rcases List.mem_append.1 hg with hg | hg
          · exact HL.out g hg
          · simp at hg; subst hg; have := HF.out.2; omega
        case measure => simp [intOf]; omega
    · go_wp2_with fail
      go_ret
      refine ⟨_, rfl, HB.out, .inr ⟨hq0, hq1, by have := HV.out.2.2; omega, ?_⟩⟩
      have := HL.out
      rwa [List.take_of_length_le (by have := HV.out.2.2; omega)] at this

set_option maxHeartbeats 1000000 in
set_option maxRecDepth 100000 in
theorem toFilter_c (k n : Int) (s : ByteArray) (w : World) :
    Calls Try.prog 99 #[.agg #[.int .i64 k, .string s, .int .i64 n]] w fun e w' => e = .returned (.agg #[.int .i64 k, .string s, .int .i64 n]) ∧ Below w.heap.size w w' := by
  go_enter Try.func99, Try.ntmps99
  go_wp2_with fail
  go_returns
  exact ⟨rfl, by go_grown⟩

theorem Try.infoFlt : (Try.prog.info? 112).map (fun i => (i.zero, i.size, i.bytes)) = some (some (.agg #[.int .i64 0, .string ByteArray.empty, .int .i64 0]), 3, 32) := by kernel_rfl

/-- three cells of an owned row are written -/
theorem own_three {w : World} {base n c g : Nat} {e : TypeId} {xs : List Value} (h : w.ownsRow base e 3 (.slice (some ⟨g, 0, none⟩) n c) n xs) (j : Nat) (a b d : Value) :
    (((w.setCell ⟨g, j, none⟩ a).setCell ⟨g, j + 1, none⟩ b).setCell ⟨g, j + 2, none⟩ d).ownsRow base e 3 (.slice (some ⟨g, 0, none⟩) n c) n (((xs.set j a).set (j + 1) b).set (j + 2) d) :=
  ((((h.stored j a).1.stored (j + 1) b).1).stored (j + 2) d).1

set_option maxHeartbeats 4000000 in
set_option maxRecDepth 100000 in
theorem toFilterS_c (v : Value) (n B : Nat) (l : List Flt) (w : World) (hv : Sl w B 3 n v (fsCells l)) (hB : B ≤ w.heap.size) (hn : n ≤ 1048576) :
    Calls Try.prog 89 #[v] w fun e w' => ∃ v', e = .returned v' ∧ w'.ownsRow w.heap.size 112 3 v' n (fsCells l) ∧ Below w.heap.size w w' := by
  have hln := hv.flen
  obtain ⟨A, c, rfl, hnc, hcm⟩ := hv.form
  obtain ⟨i0, hi, hz0, hz1, hz2⟩ := info_parts Try.infoFlt
  unfold maxLen at hcm
  have HV := hid (And.intro hv hln)
  clear hv hln
  go_enter Try.func89, Try.ntmps89
  go_wp2_with (at_make; refine wpList_make_full _ rfl _ _ 53 rfl w.heap.size 112 i0 _ 3 Try.underlying53 hi hz0 hz1 .i64 .i64 _ _ n rfl rfl rfl rfl (by rw [hz2]; omega) (by unfold maxLen; omega) (Nat.le_refl _) ?_)
  intro w1 hown hg1
  have H1 := hid (And.intro hown (below_of_grown hg1 (Nat.le_refl _) (by simp)))
  clear hown hg1
  go_wp2_with fail
  go_loopw [4] (fun iv wr => ∃ (k : Nat) (xs : List Value), iv = .int .i64 k ∧ k ≤ n ∧ wr.ownsRow w.heap.size 112 3 (.slice (some ⟨w.heap.size, 0, none⟩) n n) n xs ∧ Hid (∀ j, j < k * 3 → xs[j]? = (fsCells l)[j]?) ∧ Hid (Below w.heap.size w wr)) (fun iv _ => n - (intOf iv).toNat)
  case atStart => exact ⟨0, _, rfl, by omega, H1.out.1, fun j hj => by omega, H1.out.2⟩
  case round =>
    obtain ⟨k, xs, rfl, hk, hown, HX, HB⟩ := hrel
    by_cases hlt : k < n
    · obtain ⟨b, o, f, s, rfl, hbB, hf, hfs, g0, g1, g2⟩ := HV.out.1.flt hlt
      have c0 : wr.cell? ⟨b, o + k * 3, none⟩ = some (.int .i64 f.k) := (HB.out.cell (p := ⟨b, o + k * 3, none⟩) (by show b < _; omega)).trans g0
      have c1 : wr.cell? ⟨b, o + k * 3 + 1, none⟩ = some (.string s) := (HB.out.cell (p := ⟨b, o + k * 3 + 1, none⟩) (by show b < _; omega)).trans g1
      have c2 : wr.cell? ⟨b, o + k * 3 + 2, none⟩ = some (.int .i64 f.n) := (HB.out.cell (p := ⟨b, o + k * 3 + 2, none⟩) (by show b < _; omega)).trans g2
      have hcall := hid (fun W => toFilter_c f.k f.n s W)
      have HF := hid (And.intro hf hfs)
      have HO := hid hown
      clear hf hfs g0 g1 g2 hown
      go_wp2_with fail
      refine (hcall.out _).mono ?_
      rintro e w2 ⟨rfl, hb⟩
      have hown2 := own_below HO.out hb
      have hxl := hown2.1
      have d0 : ∃ u, w2.cell? ⟨w.heap.size, k * 3, none⟩ = some u := ⟨_, (hown2.cellAt (k * 3) (by omega)).trans (List.getElem?_eq_getElem (by omega))⟩
      have d1 : ∃ u, w2.cell? ⟨w.heap.size, k * 3 + 1, none⟩ = some u := ⟨_, (hown2.cellAt (k * 3 + 1) (by omega)).trans (List.getElem?_eq_getElem (by omega))⟩
      have d2 : ∃ u, w2.cell? ⟨w.heap.size, k * 3 + 2, none⟩ = some u := ⟨_, (hown2.cellAt (k * 3 + 2) (by omega)).trans (List.getElem?_eq_getElem (by omega))⟩
      obtain ⟨u0, d0⟩ := d0
      obtain ⟨u1, d1⟩ := d1
      obtain ⟨u2, d2⟩ := d2
      have f0 := hown2.frozenAt (k * 3)
      have f1 := hown2.frozenAt (k * 3 + 1)
      have f2 := hown2.frozenAt (k * 3 + 2)
      have R := hid (own_three hown2 (k * 3) (.int .i64 f.k) (.string s) (.int .i64 f.n))
      have HB2 := hid (HB.out.trans (hb.mono HB.out.size))
      clear hown2 hb c0 c1 c2
      go_wp2_with fail
      go_roundw
      case rel =>
        refine ⟨k + 1, _, by go_num, by omega, R.out, ?_, ((HB2.out.setCell (Nat.le_refl _) _).setCell (Nat.le_refl _) _).setCell (Nat.le_refl _) _⟩
        intro j hj
        have s0 : (fsCells l)[k * 3]? = some (.int .i64 f.k) := by have := fsCells_at l k 0 f HF.out.1 (by omega); rw [Nat.add_zero] at this; rw [this]; rfl
        have s1 : (fsCells l)[k * 3 + 1]? = some (.string s) := by rw [fsCells_at l k 1 f HF.out.1 (by omega), ← txt_data, HF.out.2]; rfl
        have s2 : (fsCells l)[k * 3 + 2]? = some (.int .i64 f.n) := by rw [fsCells_at l k 2 f HF.out.1 (by omega)]; rfl
        have hxs : xs.length = n * 3 := hxl
        simp only [List.getElem?_set, List.length_set]
        by_cases e2 : j = k * 3 + 2
        · subst e2; rw [if_pos rfl, if_pos (by omega), s2]
        · rw [if_neg (by omega)]
          by_cases e1 : j = k * 3 + 1
          · subst e1; rw [if_pos rfl, if_pos (by omega), s1]
          · rw [if_neg (by omega)]
            by_cases e0 : j = k * 3
            · subst e0; rw [if_pos rfl, if_pos (by omega), s0]
            · rw [if_neg (by omega)]; exact HX.out j (by omega)
      case measure => simp [intOf]; omega
    · have HO := hid hown
      clear hown
      go_wp2_with fail
      go_ret
      refine ⟨_, rfl, ?_, HB.out⟩
      have e : xs = fsCells l := by
        have h1 := HO.out.1
        have h2 := fsCells_len l
        have h3 := HV.out.2
        apply List.ext_getElem?
        intro j
        by_cases hj : j < k * 3
        · exact HX.out j hj
        · rw [List.getElem?_eq_none (by omega), List.getElem?_eq_none (by omega)]
      rw [← e]
      exact HO.out

set_option maxHeartbeats 1000000 in
set_option maxRecDepth 100000 in
/-- two filters that are alike -/
theorem eqFilter_c (k n : Int) (s : ByteArray) (w : World) :
    Calls Try.prog 100 #[.agg #[.int .i64 k, .string s, .int .i64 n], .agg #[.int .i64 k, .string s, .int .i64 n]] w (BoolPost w true) := by
  have b0 : (k != k) = false := by simp
  have b1 : (s.toList != s.toList) = false := by simp
  have b2 : (n != n) = false := by simp
  go_enter Try.func100, Try.ntmps100
  go_wp2_with fail
  go_ret
  exact ⟨rfl, by go_grown⟩

set_option maxHeartbeats 4000000 in
set_option maxRecDepth 100000 in
/-- two slices that read as the same filters -/
theorem eqFilterS_c (v1 v2 : Value) (n B : Nat) (l : List Flt) (w : World) (h1 : Sl w B 3 n v1 (fsCells l)) (h2 : Sl w B 3 n v2 (fsCells l)) (hB : B ≤ w.heap.size) :
    Calls Try.prog 90 #[v1, v2] w (BoolPost w true) := by
  obtain ⟨A1, k1, rfl, _, hm1⟩ := h1.form
  obtain ⟨A2, k2, rfl, _, hm2⟩ := h2.form
  unfold maxLen at hm1 hm2
  have HS := hid (And.intro h1 h2)
  have b0 : ((n : Int) != (n : Int)) = false := by simp
  clear h1 h2
  go_enter Try.func90, Try.ntmps90
  go_wp2_with fail
  go_loopw [5] (fun iv wr => ∃ (i : Nat), iv = .int .i64 i ∧ i ≤ n ∧ Hid (Below w.heap.size w wr)) (fun iv _ => n - (intOf iv).toNat)
  case atStart => exact ⟨0, rfl, by omega, Below.refl _ _⟩
  case round =>
    obtain ⟨i, rfl, hi, HB⟩ := hrel
    by_cases hlt : i < n
    · obtain ⟨b, o, f, s, rfl, hb1, hf, hfs, g0, g1, g2⟩ := HS.out.1.flt hlt
      obtain ⟨b', o', f', s', rfl, hb2, hf', hfs', g0', g1', g2'⟩ := HS.out.2.flt hlt
      obtain rfl : f = f' := by rw [hf] at hf'; exact Option.some.inj hf'
      obtain rfl : s = s' := (bytes_eq_iff _ _).1 (by rw [hfs, hfs'])
      have c0 : wr.cell? ⟨b, o + i * 3, none⟩ = some (.int .i64 f.k) := (HB.out.cell (p := ⟨b, o + i * 3, none⟩) (by show b < _; omega)).trans g0
      have c1 : wr.cell? ⟨b, o + i * 3 + 1, none⟩ = some (.string s) := (HB.out.cell (p := ⟨b, o + i * 3 + 1, none⟩) (by show b < _; omega)).trans g1
      have c2 : wr.cell? ⟨b, o + i * 3 + 2, none⟩ = some (.int .i64 f.n) := (HB.out.cell (p := ⟨b, o + i * 3 + 2, none⟩) (by show b < _; omega)).trans g2
      have c0' : wr.cell? ⟨b', o' + i * 3, none⟩ = some (.int .i64 f.k) := (HB.out.cell (p := ⟨b', o' + i * 3, none⟩) (by show b' < _; omega)).trans g0'
      have c1' : wr.cell? ⟨b', o' + i * 3 + 1, none⟩ = some (.string s) := (HB.out.cell (p := ⟨b', o' + i * 3 + 1, none⟩) (by show b' < _; omega)).trans g1'
      have c2' : wr.cell? ⟨b', o' + i * 3 + 2, none⟩ = some (.int .i64 f.n) := (HB.out.cell (p := ⟨b', o' + i * 3 + 2, none⟩) (by show b' < _; omega)).trans g2'
      have E := hid (fun W => eqFilter_c f.k f.n s W)
      clear hf hf' hfs hfs' g0 g1 g2 g0' g1' g2'
      go_wp2_with fail
      go_region_with (go_at_call 100; refine (E.out _).mono ?_; rintro e w2 ⟨rfl, hb⟩)
      all_goals go_wp2_with fail
      all_goals
        go_roundw
        case rel => exact ⟨i + 1, by go_num, by omega, by first | exact HB.out.trans (hb.mono HB.out.size) | exact HB.out.drew.trans (hb.mono HB.out.size) | exact HB.out.drew.drew.trans (hb.mono HB.out.size)⟩
        case measure => simp [intOf]; omega
    · go_wp2_with fail
      go_ret
      exact ⟨rfl, HB.out⟩
end Go.Proofs.Ytlhelhfaogcibaa
