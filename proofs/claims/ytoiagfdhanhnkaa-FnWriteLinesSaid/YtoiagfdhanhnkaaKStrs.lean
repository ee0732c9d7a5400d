/-
  []string, told by its rows.
-/
import Derived.Test.YtoiagfdhanhnkaaMarks
namespace Go.Proofs.Ytoiagfdhanhnkaa
open Go.RowKit Nm
set_option linter.unusedSimpArgs false
set_option linter.unusedVariables false

abbrev TxtL := List (List UInt8)
def StrsR (rs : List Row) (v : Value) (l : TxtL) : Prop := rs = [⟨9, 1, l.length, v, l.map txt⟩]
def StrsFit (l : TxtL) : Prop := l.length ≤ maxTxt ∧ ∀ t ∈ l, t.length ≤ maxTxt
def StrsIn (w : World) (B : Nat) (v : Value) (l : TxtL) : Prop := Sl w B 1 l.length v (l.map txt) ∧ StrsFit l
def StrsM (rs : List Row) (v : Value) (k r : Nat) : Prop := ∃ n xs, rs = [⟨9, 1, n, v, xs⟩] ∧ Marked xs k n ∧ r = k + n ∧ n + k ≤ 17592186044416
def StrsRaw (w : World) (B : Nat) (A : Option Addr) (n c : Nat) (l : TxtL) : Prop := Sl w B 1 n (.slice A n c) (l.map txt) ∧ ∀ t ∈ l, t.length ≤ maxLen
section
variable {w w' : World} {B B' lo : Nat} {v : Value} {l : TxtL} {rs rest : List Row}
theorem StrsIn.below (h : StrsIn w B v l) (hb : Below B' w w') (hB : B ≤ B') : StrsIn w' B v l := ⟨h.1.below hb hB, h.2⟩
theorem StrsIn.more (h : StrsIn w B v l) (hB : B ≤ B') : StrsIn w B' v l := ⟨h.1.more hB, h.2⟩
theorem StrsIn.form (h : StrsIn w B v l) : ∃ A n c, v = .slice A n c := by obtain ⟨A, c, h1, _, _⟩ := h.1.form; exact ⟨A, _, c, h1⟩
theorem StrsRaw.below {A : Option Addr} {n c : Nat} (h : StrsRaw w B A n c l) (hb : Below B' w w') (hB : B ≤ B') : StrsRaw w' B A n c l := ⟨h.1.below hb hB, h.2⟩
theorem StrsRaw.count {A : Option Addr} {n c : Nat} (h : StrsRaw w B A n c l) : l.length = n := by have := h.1.1; simpa using this
theorem StrsR.at_ (h : StrsR rs v l) (hr : Rows w lo rs) (hf : StrsFit l) : StrsIn w w.heap.size v l := by
  subst h; exact ⟨Sl.of_own (show w.ownsRow _ _ 1 v _ _ from hr.head), hf⟩
theorem StrsR.form (h : StrsR rs v l) (hr : Rows w lo rs) : ∃ A n c, v = .slice A n c := by
  subst h; obtain ⟨A, c, h1, _, _⟩ := (Sl.of_own (show w.ownsRow _ _ 1 v _ _ from hr.head)).form; exact ⟨A, _, c, h1⟩
theorem StrsM.form {k r : Nat} (h : StrsM rs v k r) (hr : Rows w lo rs) : ∃ A n c, v = .slice A n c := by
  obtain ⟨n, xs, rfl, _⟩ := h; obtain ⟨A, c, h1, _, _⟩ := (Sl.of_own (show w.ownsRow _ _ 1 v _ _ from hr.head)).form; exact ⟨A, _, c, h1⟩
theorem StrsFit.nil : StrsFit [] := ⟨by simp [maxTxt], by simp⟩
end
theorem szStrsY_c (A : Option Addr) (n c : Nat) (l : TxtL) (B : Nat) (left : Int) (w : World) (h : StrsRaw w B A n c l) (hB : B ≤ w.heap.size) (h0 : 0 ≤ left) (h1 : left ≤ 1048576) :
    Calls Try.prog 21 #[.slice A n c, .int .i64 left] w (SzPost left (StrsFit l) w) := by
  have := szStringS_c (.slice A n c) n B l left w h.1 hB h.2 h0 h1
  unfold StrsFit
  rw [h.count]
  exact this
theorem toStrsY_c (A : Option Addr) (n c : Nat) (l : TxtL) (B : Nat) (w : World) (h : StrsRaw w B A n c l) (hB : B ≤ w.heap.size) (hf : StrsFit l) :
    Calls Try.prog 23 #[.slice A n c] w fun e w' => ∃ v' rs, e = .returned v' ∧ StrsR rs v' l ∧ Rows w' w.heap.size rs ∧ Below w.heap.size w w' := by
  have hn := h.count
  have h1 := hf.1
  unfold maxTxt at h1
  refine (toStringS_c (.slice A n c) n B l w h.1 hB (by omega)).mono ?_
  rintro e w' ⟨v', rfl, ho, hb⟩
  subst hn
  exact ⟨v', _, rfl, rfl, Rows.one ho, hb⟩
theorem eqStrsX_c {rs rs' : List Row} {v v' : Value} {l : TxtL} {w : World} {lo lo' : Nat} (h : StrsR rs v l) (hr : Rows w lo rs) (h' : StrsR rs' v' l) (hr' : Rows w lo' rs') :
    Calls Try.prog 25 #[v, v'] w (BoolPost w true) := by
  subst h; subst h'
  have e3 := eqStrs_c v v' l.length l.length w.heap.size l l w (Sl.of_own (show w.ownsRow _ _ 1 v _ _ from hr.head)) (Sl.of_own (show w.ownsRow _ _ 1 v' _ _ from hr'.head)) (Nat.le_refl _)
  rwa [decide_eq_true (rfl : l = l)] at e3
theorem markStrsX_c {rs rest : List Row} {v : Value} {l : TxtL} {w : World} {lo k : Nat} (h : StrsR rs v l) (hR : Rows w lo (rs ++ rest)) (hlo : lo ≤ w.heap.size) (hd : StrsFit l) (hk : k ≤ 17000000000000) :
    Calls Try.prog 26 #[v, .int .i64 k] w fun e w' => ∃ (r : Nat) (rs' : List Row), e = .returned (.int .i64 (r : Int)) ∧ StrsM rs' v k r ∧ Rows w' lo (rs' ++ rest) ∧ Below lo w w' ∧ r ≤ k + 8388608 := by
  subst h
  have h1 := hd.1
  unfold maxTxt at h1
  have ho : w.ownsRow lo 9 1 v l.length (l.map txt) := hR.left.head
  refine (markStrs_c v l.length lo k _ w ho (by omega)).mono ?_
  rintro e w' ⟨rfl, ⟨ys, ho', hM⟩, hg⟩
  exact ⟨_, _, rfl, ⟨_, _, rfl, hM, rfl, by omega⟩, Rows.write1 hR hg ho', below_of_grown hg hlo (own_lt ho), by omega⟩
theorem heldStrsX_c {rs : List Row} {v : Value} {k r lo : Nat} {w : World} (h : StrsM rs v k r) (hR : Rows w lo rs) :
    Calls Try.prog 69 #[v, .int .i64 k] w fun e w' => e = .returned (.int .i64 (r : Int)) ∧ Below w.heap.size w w' := by
  obtain ⟨n, xs, rfl, hM, rfl, hn⟩ := h
  exact heldStrs_c v n w.heap.size k xs w (Sl.of_own (show w.ownsRow _ _ 1 v _ _ from hR.head)) (Nat.le_refl _) hM hn
end Go.Proofs.Ytoiagfdhanhnkaa
