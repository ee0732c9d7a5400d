/-
  Slices of filters, told by their rows, as gen_any.py's walks want a kind.
-/
import Derived.Test.YteekkccgdkmjoaaMarks
namespace Go.Proofs.Yteekkccgdkmjoaa
open Go.RowKit Nm
set_option linter.unusedSimpArgs false
set_option linter.unusedVariables false

def FltsR (rs : List Row) (v : Value) (l : List Flt) : Prop := rs = [⟨47, 3, l.length, v, fsCells l⟩]
def FltsFit (l : List Flt) : Prop := l.length ≤ maxTxt ∧ ∀ x ∈ l, x.nm.length ≤ maxTxt
def FltsIn (w : World) (B : Nat) (v : Value) (l : List Flt) : Prop := Fs w B l.length v l ∧ l.length ≤ maxTxt
def FltsM (rs : List Row) (v : Value) (k r : Nat) : Prop := ∃ n xs, rs = [⟨47, 3, n, v, xs⟩] ∧ MarkedK fcellsKinds 3 xs k (n * 3) ∧ r = k + n * 3 ∧ n * 3 + k ≤ 17592186044416
section
variable {w w' : World} {B B' lo : Nat} {v : Value} {l : List Flt} {rs rest : List Row}
theorem FltsIn.below (h : FltsIn w B v l) (hb : Below B' w w') (hB : B ≤ B') : FltsIn w' B v l := ⟨⟨h.1.1.below hb hB, h.1.2⟩, h.2⟩
theorem FltsIn.form (h : FltsIn w B v l) : ∃ A n c, v = .slice A n c := by obtain ⟨A, c, h1, _, _⟩ := h.1.1.form; exact ⟨A, _, c, h1⟩
theorem FltsR.at_ (h : FltsR rs v l) (hr : Rows w lo rs) (hf : FltsFit l) : FltsIn w w.heap.size v l := by
  subst h; exact ⟨⟨Sl.of_own (show w.ownsRow _ _ 3 v _ _ from hr.head), hf.2⟩, hf.1⟩
theorem FltsR.form (h : FltsR rs v l) (hr : Rows w lo rs) : ∃ A n c, v = .slice A n c := by
  subst h; obtain ⟨A, c, h1, _, _⟩ := (Sl.of_own (show w.ownsRow _ _ 3 v _ _ from hr.head)).form; exact ⟨A, _, c, h1⟩
end
theorem eqFltsX_c {rs rs' : List Row} {v v' : Value} {l : List Flt} {w : World} {lo lo' : Nat} (h : FltsR rs v l) (hr : Rows w lo rs) (h' : FltsR rs' v' l) (hr' : Rows w lo' rs') :
    Calls Try.prog 12 #[v, v'] w (BoolPost w true) := by
  subst h; subst h'
  exact eqFilterS_c v v' l.length w.heap.size l w (Sl.of_own (show w.ownsRow _ _ 3 v _ _ from hr.head)) (Sl.of_own (show w.ownsRow _ _ 3 v' _ _ from hr'.head)) (Nat.le_refl _)
def FltsRaw (w : World) (B : Nat) (A : Option Addr) (n c : Nat) (l : List Flt) : Prop := Sl w B 3 n (.slice A n c) (fsCells l) ∧ ∀ f ∈ l, f.nm.length ≤ maxLen
theorem FltsRaw.below {w w' : World} {B B' : Nat} {A : Option Addr} {n c : Nat} {l : List Flt} (h : FltsRaw w B A n c l) (hb : Below B' w w') (hB : B ≤ B') : FltsRaw w' B A n c l := ⟨h.1.below hb hB, h.2⟩
theorem szFltsY_c (A : Option Addr) (n c : Nat) (l : List Flt) (B : Nat) (left : Int) (w : World) (h : FltsRaw w B A n c l) (hB : B ≤ w.heap.size) (h0 : 0 ≤ left) (h1 : left ≤ 1048576) :
    Calls Try.prog 5 #[.slice A n c, .int .i64 left] w (SzPost left (FltsFit l) w) := by
  have hn := h.1.flen
  have := szFs_c (.slice A n c) n B l left w h.1 hB h.2 h0 h1
  unfold FltsFit
  rw [hn]
  exact this
theorem toFltsY_c (A : Option Addr) (n c : Nat) (l : List Flt) (B : Nat) (w : World) (h : FltsRaw w B A n c l) (hB : B ≤ w.heap.size) (hf : FltsFit l) :
    Calls Try.prog 8 #[.slice A n c] w fun e w' => ∃ v' rs, e = .returned v' ∧ FltsR rs v' l ∧ Rows w' w.heap.size rs ∧ Below w.heap.size w w' := by
  have hn := h.1.flen
  have h1 := hf.1
  unfold maxTxt at h1
  refine (toFilterS_c _ n B l w h.1 hB (by omega)).mono ?_
  rintro e w' ⟨v', rfl, ho, hb⟩
  subst hn
  exact ⟨v', _, rfl, rfl, Rows.one ho, hb⟩
end Go.Proofs.Yteekkccgdkmjoaa
