/-
  DRAWS: what the laws of records draw; lists compared. By gen_d5.py.
-/
import Derived.Test.YthgkkckbncgfmaaD4
namespace Go.Proofs.Ythgkkckbncgfmaa
open Go.RowKit Nm
set_option linter.unusedSimpArgs false
set_option linter.unusedVariables false

set_option maxHeartbeats 2000000 in
set_option maxRecDepth 100000 in
theorem equalRecords_c (v1 v2 : Value) (n B : Nat) (l : List Rec) (w : World) (h1 : Sl w B 4 n v1 (l.flatMap rcells)) (h2 : Sl w B 4 n v2 (l.flatMap rcells)) (hB : B ≤ w.heap.size) :
    Calls Try.prog 13 #[v1, v2] w (BoolPost w true) := by
  obtain ⟨A1, k1, rfl, _, hm1⟩ := h1.form
  obtain ⟨A2, k2, rfl, _, hm2⟩ := h2.form
  unfold maxLen at hm1 hm2
  have HS := hid (And.intro h1 h2)
  have b0 : ((n : Int) != (n : Int)) = false := by simp
  clear h1 h2
  go_enter Try.func13, Try.ntmps13
  go_wp2_with fail
  go_loopw [5] (fun iv wr => ∃ (i : Nat), iv = .int .i64 i ∧ i ≤ n ∧ Hid (Below w.heap.size w wr)) (fun iv _ => n - (intOf iv).toNat)
  case atStart => exact ⟨0, rfl, by omega, Below.refl _ _⟩
  case round =>
    obtain ⟨k, rfl, hi, HB⟩ := hrel
    by_cases hlt : k < n
    · obtain ⟨b, o, nm, lv, tx, sq, rfl, hb1, hx, g0, g1, g2, g3⟩ := rcells_at HS.out.1 hlt
      obtain ⟨b', o', nm', lv', tx', sq', rfl, hb2, hx', g0', g1', g2', g3'⟩ := rcells_at HS.out.2 hlt
      rw [hx] at hx'
      have hx'' := Option.some.inj hx'
      simp only [Rec.mk.injEq, bytes_eq_iff] at hx''
      obtain ⟨rfl, rfl, rfl, rfl⟩ := hx''
      have c0 : wr.cell? ⟨b, o + k * 4, none⟩ = some (.string nm) := (HB.out.cell (p := ⟨b, o + k * 4, none⟩) (by show b < _; omega)).trans g0
      have c0' : wr.cell? ⟨b', o' + k * 4, none⟩ = some (.string nm) := (HB.out.cell (p := ⟨b', o' + k * 4, none⟩) (by show b' < _; omega)).trans g0'
      have c1 : wr.cell? ⟨b, o + k * 4 + 1, none⟩ = some (.int .i64 lv) := (HB.out.cell (p := ⟨b, o + k * 4 + 1, none⟩) (by show b < _; omega)).trans g1
      have c1' : wr.cell? ⟨b', o' + k * 4 + 1, none⟩ = some (.int .i64 lv) := (HB.out.cell (p := ⟨b', o' + k * 4 + 1, none⟩) (by show b' < _; omega)).trans g1'
      have c2 : wr.cell? ⟨b, o + k * 4 + 2, none⟩ = some (.string tx) := (HB.out.cell (p := ⟨b, o + k * 4 + 2, none⟩) (by show b < _; omega)).trans g2
      have c2' : wr.cell? ⟨b', o' + k * 4 + 2, none⟩ = some (.string tx) := (HB.out.cell (p := ⟨b', o' + k * 4 + 2, none⟩) (by show b' < _; omega)).trans g2'
      have c3 : wr.cell? ⟨b, o + k * 4 + 3, none⟩ = some (.int .i64 sq) := (HB.out.cell (p := ⟨b, o + k * 4 + 3, none⟩) (by show b < _; omega)).trans g3
      have c3' : wr.cell? ⟨b', o' + k * 4 + 3, none⟩ = some (.int .i64 sq) := (HB.out.cell (p := ⟨b', o' + k * 4 + 3, none⟩) (by show b' < _; omega)).trans g3'
      clear hx hx' g0 g1 g2 g3 g0' g1' g2' g3'
      go_wp2_with fail
      go_quiet (fail)
      go_wp2_with fail
      go_roundw
      case rel => exact ⟨k + 1, by go_num, by omega, below_dr HB.out _⟩
      case measure => simp [intOf]; omega
    · go_wp2_with fail
      go_ret
      exact ⟨rfl, HB.out⟩
theorem equalRecsX_c {rs rs' : List Row} {v v' : Value} {l : List Rec} {w : World} {lo lo' : Nat} (h : RecsR rs v l) (hr : Rows w lo rs) (h' : RecsR rs' v' l) (hr' : Rows w lo' rs') :
    Calls Try.prog 13 #[v, v'] w (BoolPost w true) := by
  subst h; subst h'
  exact equalRecords_c v v' l.length w.heap.size l w (Sl.of_own (show w.ownsRow _ _ 4 v _ _ from hr.head)) (Sl.of_own (show w.ownsRow _ _ 4 v' _ _ from hr'.head)) (Nat.le_refl _)
theorem fit20_fit {l : List Rec} {m : Nat} (h : fit20 l) (hl : l.length ≤ m) (hm : m ≤ 1000) : RecsFit l := by
  refine ⟨by unfold maxTxt; omega, fun x hx => ?_⟩
  have := h x hx
  unfold rcellsFit maxTxt
  omega

/-- drawn: records -/
def DrawRecs (w : World) (e : Ending) (w2 : World) : Prop := ∃ (v : Value) (rs : List Row) (l : List Rec), e = .returned v ∧ RecsR rs v l ∧ Rows w2 w.heap.size rs ∧ Below w.heap.size w w2 ∧ RecsFit l
def DrawRecsI (w : World) (e : Ending) (w2 : World) : Prop := ∃ (v : Value) (rs : List Row) (l : List Rec) (n : Int), e = .returned (.tuple #[v, .int .i64 n]) ∧ RecsR rs v l ∧ Rows w2 w.heap.size rs ∧ Below w.heap.size w w2 ∧ RecsFit l ∧ 0 ≤ n ∧ n ≤ 100
set_option maxHeartbeats 2000000 in
set_option maxRecDepth 100000 in
theorem drawDropRepeats_c (a : Option Addr) (len cap : Nat) (z : List Int) (w : World) (h : IsRow .u8 w a len cap z) :
    Calls Try.prog 16 #[.slice a len cap] w (DrawRecs w) := by
  have C := hid (newReader_c a len cap z w h)
  clear h
  go_enter Try.func16, Try.ntmps16
  go_wp2_with fail
  refine C.out.mono ?_
  rintro e w1 ⟨rfl, hr1, hb1⟩
  have HB1 := hid hb1
  have C1 := hid (someRecords_c w.heap.size 0 w1 hr1 (by omega))
  clear hr1 hb1 C
  go_wp2_with fail
  refine C1.out.mono ?_
  rintro e w2 ⟨v, l, p2, rfl, hl, hf, ho2, hp2, hr2, hg2⟩
  obtain ⟨A, c, rfl, _, _⟩ := (Sl.of_own ho2).form
  have HO2 := hid (And.intro ho2 (And.intro hr2 (And.intro hg2 (And.intro hl hf))))
  clear ho2 hr2 hg2 hl hf C1
  go_wp2_with fail
  go_ret
  exact ⟨_, _, l, rfl, rfl, Rows.one (own_base HO2.out.1 HB1.out.size), HB1.out.trans (below_own (HO2.out.2.2.1) HB1.out.size (Nat.le_refl _)), fit20_fit HO2.out.2.2.2.2 HO2.out.2.2.2.1 (by omega)⟩

set_option maxHeartbeats 2000000 in
set_option maxRecDepth 100000 in
theorem drawAtLeast_c (a : Option Addr) (len cap : Nat) (z : List Int) (w : World) (h : IsRow .u8 w a len cap z) :
    Calls Try.prog 11 #[.slice a len cap] w (DrawRecsI w) := by
  have C := hid (newReader_c a len cap z w h)
  clear h
  go_enter Try.func11, Try.ntmps11
  go_wp2_with fail
  refine C.out.mono ?_
  rintro e w1 ⟨rfl, hr1, hb1⟩
  have HB1 := hid hb1
  have C9 := hid hr1.lt
  have C1 := hid (someRecords_c w.heap.size 0 w1 hr1 (by omega))
  clear hr1 hb1 C
  go_wp2_with fail
  refine C1.out.mono ?_
  rintro e w2 ⟨v, l, p2, rfl, hl, hf, ho2, hp2, hr2, hg2⟩
  obtain ⟨A, c, rfl, _, _⟩ := (Sl.of_own ho2).form
  have HO2 := hid (And.intro ho2 (And.intro hr2 (And.intro hg2 (And.intro hl hf))))
  clear ho2 hr2 hg2 hl hf C1
  have C3 := hid (one_lit w.heap.size p2 6 [20, 30, 40, 0, 61, 15] w2 HO2.out.2.1 (by omega) rfl (by omega) (by omega) 0 61 (by decide))
  go_wp2_with fail
  refine C3.out.mono ?_
  rintro e w3 ⟨n, ⟨hn0, hn1⟩, rfl, hr3, hg3⟩
  have hlt : w.heap.size < w1.heap.size := C9.out
  have HO3 := hid (own_off HO2.out.1 hg3 hlt)
  have HG3 := hid (grown_tr HO2.out.2.2.1 hg3)
  clear hr3 hg3 C3
  go_wp2_with fail
  go_ret2
  exact ⟨_, _, l, n, rfl, rfl, Rows.one (own_base HO3.out HB1.out.size), HB1.out.trans (below_own (HG3.out) HB1.out.size (Nat.le_refl _)), fit20_fit HO2.out.2.2.2.2 HO2.out.2.2.2.1 (by omega), hn0, by omega⟩

set_option maxHeartbeats 2000000 in
set_option maxRecDepth 100000 in
theorem drawValidRecords_c (a : Option Addr) (len cap : Nat) (z : List Int) (w : World) (h : IsRow .u8 w a len cap z) :
    Calls Try.prog 19 #[.slice a len cap] w (DrawRecs w) := by
  have C := hid (newReader_c a len cap z w h)
  clear h
  go_enter Try.func19, Try.ntmps19
  go_wp2_with fail
  refine C.out.mono ?_
  rintro e w1 ⟨rfl, hr1, hb1⟩
  have HB1 := hid hb1
  have C9 := hid hr1.lt
  have C1 := hid (someRecords_c w.heap.size 0 w1 hr1 (by omega))
  clear hr1 hb1 C
  go_wp2_with fail
  refine C1.out.mono ?_
  rintro e w2 ⟨v, l, p2, rfl, hl, hf, ho2, hp2, hr2, hg2⟩
  obtain ⟨A, c, rfl, _, _⟩ := (Sl.of_own ho2).form
  have HO2 := hid (And.intro ho2 (And.intro hr2 (And.intro hg2 (And.intro hl hf))))
  clear ho2 hr2 hg2 hl hf C1
  have C3 := hid (someRecord_c w.heap.size p2 w2 HO2.out.2.1 (by omega))
  go_wp2_with fail
  refine C3.out.mono ?_
  rintro e w3 ⟨nm, tx, lv, sq, p3, ⟨hnm, htx⟩, _, _, rfl, hp3, hr3, hg3⟩
  have hlt : w.heap.size < w1.heap.size := C9.out
  have HO3 := hid (own_off HO2.out.1 hg3 hlt)
  have HG3 := hid (grown_tr HO2.out.2.2.1 hg3)
  have hs3 : w1.heap.size ≤ w3.heap.size := HG3.out.size
  have hl9 : l.length ≤ 1048576 := by have := HO2.out.2.2.2.1; omega
  clear hr3 hg3 C3
  go_wp2_with (at_builtin; refine appRecord _ rfl _ _ rfl w1.heap.size _ l (by rfl) HO3.out nm lv tx sq _ _ _ (by rfl) (by simp) hl9 hs3 ?_)
  intro v4 w4 ho4 hb4
  have HO4 := hid (show w4.ownsRow w1.heap.size 33 4 v4 (l ++ [(⟨nm.data.toList, lv, tx.data.toList, sq⟩ : Rec)]).length ((l ++ [(⟨nm.data.toList, lv, tx.data.toList, sq⟩ : Rec)]).flatMap rcells) by simpa using ho4)
  have HB4 := hid (show Below w.heap.size w w4 from (HB1.out.trans (below_own HG3.out HB1.out.size (Nat.le_refl _))).trans (hb4.mono HB1.out.size))
  clear ho4 hb4
  go_wp2_with fail
  go_ret
  exact ⟨_, _, _, rfl, rfl, Rows.one (own_base HO4.out HB1.out.size), HB4.out, fit20_fit (m := 26) (fit_add HO2.out.2.2.2.2 (by rw [← Lib.size_eq, ← Lib.size_eq]; exact ⟨hnm, htx⟩)) (by rw [List.length_append]; have := HO2.out.2.2.2.1; simp; omega) (by omega)⟩

end Go.Proofs.Ythgkkckbncgfmaa
