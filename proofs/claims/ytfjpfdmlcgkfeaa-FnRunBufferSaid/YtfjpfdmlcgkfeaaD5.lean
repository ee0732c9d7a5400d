/-
  DRAWS: what the laws of records draw; lists compared. By gen_d5.py.
-/
import Derived.Test.YtfjpfdmlcgkfeaaDM
namespace Go.Proofs.Ytfjpfdmlcgkfeaa
open Go.RowKit Nm
set_option linter.unusedSimpArgs false
set_option linter.unusedVariables false

set_option maxHeartbeats 2000000 in
set_option maxRecDepth 100000 in
theorem equalRecords_c (v1 v2 : Value) (n B : Nat) (l : List Rec) (w : World) (h1 : Sl w B 4 n v1 (l.flatMap rcells)) (h2 : Sl w B 4 n v2 (l.flatMap rcells)) (hB : B ≤ w.heap.size) :
    Calls Try.prog 22 #[v1, v2] w (BoolPost w true) := by
  obtain ⟨A1, k1, rfl, _, hm1⟩ := h1.form
  obtain ⟨A2, k2, rfl, _, hm2⟩ := h2.form
  unfold maxLen at hm1 hm2
  have HS := hid (And.intro h1 h2)
  have b0 : ((n : Int) != (n : Int)) = false := by simp
  clear h1 h2
  go_enter Try.func22, Try.ntmps22
  go_wp2_with fail
  go_loopw [5] (fun iv wr => ∃ (i : Nat), iv = .int .i64 i ∧ i ≤ n ∧ Hid (Below w.heap.size w wr)) (fun iv _ => n - (intOf iv).toNat)
  case atStart => exact ⟨0, rfl, by omega, Below.refl _ _⟩
  case round =>
    obtain ⟨k, rfl, hi, HB⟩ := hrel
    by_cases hlt : k < n
    · obtain ⟨b, o, nm, lv, tx, sq, rfl, hb1, hx, g0, g1, g2, g3⟩ := rcells_at HS.out.1 hlt
      obtain ⟨b', o', nm', lv', tx', sq', rfl, hb2, hx', g0', g1', g2', g3'⟩ := rcells_at HS.out.2 hlt
      rw [hx] at hx'
      have hx'' := Option.some.inj hx'
      simp only [Rec.mk.injEq, bytes_eq_iff] at hx''
      obtain ⟨rfl, rfl, rfl, rfl⟩ := hx''
      have c0 : wr.cell? ⟨b, o + k * 4, none⟩ = some (.string nm) := (HB.out.cell (p := ⟨b, o + k * 4, none⟩) (by show b < _; omega)).trans g0
      have c0' : wr.cell? ⟨b', o' + k * 4, none⟩ = some (.string nm) := (HB.out.cell (p := ⟨b', o' + k * 4, none⟩) (by show b' < _; omega)).trans g0'
      have c1 : wr.cell? ⟨b, o + k * 4 + 1, none⟩ = some (.int .i64 lv) := (HB.out.cell (p := ⟨b, o + k * 4 + 1, none⟩) (by show b < _; omega)).trans g1
      have c1' : wr.cell? ⟨b', o' + k * 4 + 1, none⟩ = some (.int .i64 lv) := (HB.out.cell (p := ⟨b', o' + k * 4 + 1, none⟩) (by show b' < _; omega)).trans g1'
      have c2 : wr.cell? ⟨b, o + k * 4 + 2, none⟩ = some (.string tx) := (HB.out.cell (p := ⟨b, o + k * 4 + 2, none⟩) (by show b < _; omega)).trans g2
      have c2' : wr.cell? ⟨b', o' + k * 4 + 2, none⟩ = some (.string tx) := (HB.out.cell (p := ⟨b', o' + k * 4 + 2, none⟩) (by show b' < _; omega)).trans g2'
      have c3 : wr.cell? ⟨b, o + k * 4 + 3, none⟩ = some (.int .i64 sq) := (HB.out.cell (p := ⟨b, o + k * 4 + 3, none⟩) (by show b < _; omega)).trans g3
      have c3' : wr.cell? ⟨b', o' + k * 4 + 3, none⟩ = some (.int .i64 sq) := (HB.out.cell (p := ⟨b', o' + k * 4 + 3, none⟩) (by show b' < _; omega)).trans g3'
      clear hx hx' g0 g1 g2 g3 g0' g1' g2' g3'
      go_wp2_with fail
      go_quiet (fail)
      go_wp2_with fail
      go_roundw
      case rel => exact ⟨k + 1, by go_num, by omega, below_dr HB.out _⟩
      case measure => simp [intOf]; omega
    · go_wp2_with fail
      go_ret
      exact ⟨rfl, HB.out⟩
theorem equalRecsX_c {rs rs' : List Row} {v v' : Value} {l : List Rec} {w : World} {lo lo' : Nat} (h : RecsR rs v l) (hr : Rows w lo rs) (h' : RecsR rs' v' l) (hr' : Rows w lo' rs') :
    Calls Try.prog 22 #[v, v'] w (BoolPost w true) := by
  subst h; subst h'
  exact equalRecords_c v v' l.length w.heap.size l w (Sl.of_own (show w.ownsRow _ _ 4 v _ _ from hr.head)) (Sl.of_own (show w.ownsRow _ _ 4 v' _ _ from hr'.head)) (Nat.le_refl _)
theorem fit20_fit {l : List Rec} {m : Nat} (h : fit20 l) (hl : l.length ≤ m) (hm : m ≤ 1000) : RecsFit l := by
  refine ⟨by unfold maxTxt; omega, fun x hx => ?_⟩
  have := h x hx
  unfold rcellsFit maxTxt
  omega

/-- drawn: records -/
def DrawRecs (w : World) (e : Ending) (w2 : World) : Prop := ∃ (v : Value) (rs : List Row) (l : List Rec), e = .returned v ∧ RecsR rs v l ∧ Rows w2 w.heap.size rs ∧ Below w.heap.size w w2 ∧ RecsFit l
def DrawRecsI (w : World) (e : Ending) (w2 : World) : Prop := ∃ (v : Value) (rs : List Row) (l : List Rec) (n : Int), e = .returned (.tuple #[v, .int .i64 n]) ∧ RecsR rs v l ∧ Rows w2 w.heap.size rs ∧ Below w.heap.size w w2 ∧ RecsFit l ∧ 0 ≤ n ∧ n ≤ 100
end Go.Proofs.Ytfjpfdmlcgkfeaa
