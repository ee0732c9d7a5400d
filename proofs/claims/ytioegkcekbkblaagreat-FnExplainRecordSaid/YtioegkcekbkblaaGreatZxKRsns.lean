/-
  Slices of Reason, told by their rows. By gen_kind.py.
-/
import Derived.Test.YtioegkcekbkblaaGreatZxGM
import Derived.Test.YtioegkcekbkblaaGreatZxMarks
namespace Go.Proofs.YtioegkcekbkblaaGreat
open Go.RowKit Nm
set_option linter.unusedSimpArgs false
set_option linter.unusedVariables false

def RsnsR (rs : List Row) (v : Value) (l : List Rsn) : Prop := rs = [⟨54, 3, l.length, v, l.flatMap rscells⟩]
def RsnsFit (l : List Rsn) : Prop := l.length ≤ maxTxt ∧ ∀ x ∈ l, rscellsFit x
def RsnsIn (w : World) (B : Nat) (v : Value) (l : List Rsn) : Prop := Rsns w B l.length v l ∧ l.length ≤ maxTxt
def RsnsM (rs : List Row) (v : Value) (k r : Nat) : Prop := ∃ n xs, rs = [⟨54, 3, n, v, xs⟩] ∧ MarkedK rscellsKinds 3 xs k (n * 3) ∧ r = k + n * 3 ∧ n * 3 + k ≤ 17592186044416
section
variable {w w' : World} {B B' lo : Nat} {v : Value} {l : List Rsn} {rs rest : List Row}
theorem RsnsIn.below (h : RsnsIn w B v l) (hb : Below B' w w') (hB : B ≤ B') : RsnsIn w' B v l := ⟨h.1.below hb hB, h.2⟩
theorem RsnsIn.more (h : RsnsIn w B v l) (hB : B ≤ B') : RsnsIn w B' v l := ⟨h.1.more hB, h.2⟩
theorem RsnsIn.form (h : RsnsIn w B v l) : ∃ A n c, v = .slice A n c := by obtain ⟨A, c, h1, _, _⟩ := h.1.1.form; exact ⟨A, _, c, h1⟩
theorem RsnsR.at_ (h : RsnsR rs v l) (hr : Rows w lo rs) (hf : RsnsFit l) : RsnsIn w w.heap.size v l := by
  subst h; exact ⟨⟨Sl.of_own (show w.ownsRow _ _ 3 v _ _ from hr.head), hf.2⟩, hf.1⟩
theorem RsnsR.form (h : RsnsR rs v l) (hr : Rows w lo rs) : ∃ A n c, v = .slice A n c := by
  subst h; obtain ⟨A, c, h1, _, _⟩ := (Sl.of_own (show w.ownsRow _ _ 3 v _ _ from hr.head)).form; exact ⟨A, _, c, h1⟩
theorem RsnsR.of_own (h : w'.ownsRow w.heap.size 54 3 v l.length (l.flatMap rscells)) : ∃ rs, RsnsR rs v l ∧ Rows w' w.heap.size rs := ⟨_, rfl, Rows.one h⟩
theorem RsnsR.nil (w : World) (lo : Nat) : ∃ rs, RsnsR rs (.slice none 0 0) ([] : List Rsn) ∧ Rows w lo rs := ⟨_, rfl, Rows.one (World.ownsRow_nil _ _ _ _)⟩
theorem RsnsFit.nil : RsnsFit [] := ⟨by simp [maxTxt], by simp⟩
end
theorem RsnsM.form {rs : List Row} {v : Value} {k r lo : Nat} {w : World} (h : RsnsM rs v k r) (hr : Rows w lo rs) : ∃ A n c, v = .slice A n c := by
  obtain ⟨n, xs, rfl, _⟩ := h; obtain ⟨A, c, h1, _, _⟩ := (Sl.of_own (show w.ownsRow _ _ 3 v _ _ from hr.head)).form; exact ⟨A, _, c, h1⟩
end Go.Proofs.YtioegkcekbkblaaGreat
