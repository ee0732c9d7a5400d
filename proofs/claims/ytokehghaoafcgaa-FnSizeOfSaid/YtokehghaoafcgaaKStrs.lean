/-
  []string, told by its rows.
-/
import Derived.Test.YtokehghaoafcgaaMarks
namespace Go.Proofs.Ytokehghaoafcgaa
open Go.RowKit Nm
set_option linter.unusedSimpArgs false
set_option linter.unusedVariables false

abbrev TxtL := List (List UInt8)
def StrsR (rs : List Row) (v : Value) (l : TxtL) : Prop := rs = [⟨9, 1, l.length, v, l.map txt⟩]
def StrsFit (l : TxtL) : Prop := l.length ≤ maxTxt ∧ ∀ t ∈ l, t.length ≤ maxTxt
def StrsIn (w : World) (B : Nat) (v : Value) (l : TxtL) : Prop := Sl w B 1 l.length v (l.map txt) ∧ StrsFit l
def StrsM (rs : List Row) (v : Value) (k r : Nat) : Prop := ∃ n xs, rs = [⟨9, 1, n, v, xs⟩] ∧ Marked xs k n ∧ r = k + n ∧ n + k ≤ 17592186044416
def StrsRaw (w : World) (B : Nat) (A : Option Addr) (n c : Nat) (l : TxtL) : Prop := Sl w B 1 n (.slice A n c) (l.map txt) ∧ ∀ t ∈ l, t.length ≤ maxLen
section
variable {w w' : World} {B B' lo : Nat} {v : Value} {l : TxtL} {rs rest : List Row}
theorem StrsIn.below (h : StrsIn w B v l) (hb : Below B' w w') (hB : B ≤ B') : StrsIn w' B v l := ⟨h.1.below hb hB, h.2⟩
theorem StrsIn.more (h : StrsIn w B v l) (hB : B ≤ B') : StrsIn w B' v l := ⟨h.1.more hB, h.2⟩
theorem StrsIn.form (h : StrsIn w B v l) : ∃ A n c, v = .slice A n c := by obtain ⟨A, c, h1, _, _⟩ := h.1.form; exact ⟨A, _, c, h1⟩
theorem StrsRaw.below {A : Option Addr} {n c : Nat} (h : StrsRaw w B A n c l) (hb : Below B' w w') (hB : B ≤ B') : StrsRaw w' B A n c l := ⟨h.1.below hb hB, h.2⟩
theorem StrsRaw.count {A : Option Addr} {n c : Nat} (h : StrsRaw w B A n c l) : l.length = n := by have := h.1.1; simpa using this
theorem StrsR.at_ (h : StrsR rs v l) (hr : Rows w lo rs) (hf : StrsFit l) : StrsIn w w.heap.size v l := by
  subst h; exact ⟨Sl.of_own (show w.ownsRow _ _ 1 v _ _ from hr.head), hf⟩
theorem StrsR.form (h : StrsR rs v l) (hr : Rows w lo rs) : ∃ A n c, v = .slice A n c := by
  subst h; obtain ⟨A, c, h1, _, _⟩ := (Sl.of_own (show w.ownsRow _ _ 1 v _ _ from hr.head)).form; exact ⟨A, _, c, h1⟩
theorem StrsM.form {k r : Nat} (h : StrsM rs v k r) (hr : Rows w lo rs) : ∃ A n c, v = .slice A n c := by
  obtain ⟨n, xs, rfl, _⟩ := h; obtain ⟨A, c, h1, _, _⟩ := (Sl.of_own (show w.ownsRow _ _ 1 v _ _ from hr.head)).form; exact ⟨A, _, c, h1⟩
theorem StrsFit.nil : StrsFit [] := ⟨by simp [maxTxt], by simp⟩
end
end Go.Proofs.Ytokehghaoafcgaa
