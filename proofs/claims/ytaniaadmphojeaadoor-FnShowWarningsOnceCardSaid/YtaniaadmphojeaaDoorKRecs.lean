/-
  Slices of Record, told by their rows. By gen_kind.py.
-/
import Derived.Test.YtaniaadmphojeaaDoorGM
import Derived.Test.YtaniaadmphojeaaDoorMarks
namespace Go.Proofs.YtaniaadmphojeaaDoor
open Go.RowKit Nm
set_option linter.unusedSimpArgs false
set_option linter.unusedVariables false

def RecsFit (l : List Rec) : Prop := l.length ≤ maxTxt ∧ ∀ x ∈ l, rcellsFit x
def RecsIn (w : World) (B : Nat) (v : Value) (l : List Rec) : Prop := Rs w B l.length v l ∧ l.length ≤ maxTxt
section
variable {w w' : World} {B B' lo : Nat} {v : Value} {l : List Rec} {rs rest : List Row}
theorem RecsIn.below (h : RecsIn w B v l) (hb : Below B' w w') (hB : B ≤ B') : RecsIn w' B v l := ⟨h.1.below hb hB, h.2⟩
theorem RecsIn.more (h : RecsIn w B v l) (hB : B ≤ B') : RecsIn w B' v l := ⟨h.1.more hB, h.2⟩
theorem RecsIn.form (h : RecsIn w B v l) : ∃ A n c, v = .slice A n c := by obtain ⟨A, c, h1, _, _⟩ := h.1.1.form; exact ⟨A, _, c, h1⟩
theorem RecsFit.nil : RecsFit [] := ⟨by simp [maxTxt], by simp⟩
end
def RecsRaw (w : World) (B : Nat) (A : Option Addr) (n c : Nat) (l : List Rec) : Prop := Sl w B 4 n (.slice A n c) (l.flatMap rcells) ∧ ∀ x ∈ l, x.nm.length ≤ maxLen ∧ x.tx.length ≤ maxLen
theorem RecsRaw.below {w w' : World} {B B' : Nat} {A : Option Addr} {n c : Nat} {l : List Rec} (h : RecsRaw w B A n c l) (hb : Below B' w w') (hB : B ≤ B') : RecsRaw w' B A n c l := ⟨h.1.below hb hB, h.2⟩
end Go.Proofs.YtaniaadmphojeaaDoor
