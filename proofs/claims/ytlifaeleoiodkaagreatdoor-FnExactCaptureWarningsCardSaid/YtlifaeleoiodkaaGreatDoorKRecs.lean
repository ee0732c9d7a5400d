/-
  Slices of Record, told by their rows. By gen_kind.py.
-/
import Derived.Test.YtlifaeleoiodkaaGreatDoorGM
import Derived.Test.YtlifaeleoiodkaaGreatDoorMarks
namespace Go.Proofs.YtlifaeleoiodkaaGreatDoor
open Go.RowKit Nm
set_option linter.unusedSimpArgs false
set_option linter.unusedVariables false

def RecsR (rs : List Row) (v : Value) (l : List Rec) : Prop := rs = [⟨61, 4, l.length, v, l.flatMap rcells⟩]
def RecsFit (l : List Rec) : Prop := l.length ≤ maxTxt ∧ ∀ x ∈ l, rcellsFit x
def RecsIn (w : World) (B : Nat) (v : Value) (l : List Rec) : Prop := Rs w B l.length v l ∧ l.length ≤ maxTxt
def RecsM (rs : List Row) (v : Value) (k r : Nat) : Prop := ∃ n xs, rs = [⟨61, 4, n, v, xs⟩] ∧ MarkedK rcellsKinds 4 xs k (n * 4) ∧ r = k + n * 4 ∧ n * 4 + k ≤ 17592186044416
section
variable {w w' : World} {B B' lo : Nat} {v : Value} {l : List Rec} {rs rest : List Row}
theorem RecsIn.below (h : RecsIn w B v l) (hb : Below B' w w') (hB : B ≤ B') : RecsIn w' B v l := ⟨h.1.below hb hB, h.2⟩
theorem RecsIn.more (h : RecsIn w B v l) (hB : B ≤ B') : RecsIn w B' v l := ⟨h.1.more hB, h.2⟩
theorem RecsIn.form (h : RecsIn w B v l) : ∃ A n c, v = .slice A n c := by obtain ⟨A, c, h1, _, _⟩ := h.1.1.form; exact ⟨A, _, c, h1⟩
theorem RecsR.at_ (h : RecsR rs v l) (hr : Rows w lo rs) (hf : RecsFit l) : RecsIn w w.heap.size v l := by
  subst h; exact ⟨⟨Sl.of_own (show w.ownsRow _ _ 4 v _ _ from hr.head), hf.2⟩, hf.1⟩
theorem RecsR.form (h : RecsR rs v l) (hr : Rows w lo rs) : ∃ A n c, v = .slice A n c := by
  subst h; obtain ⟨A, c, h1, _, _⟩ := (Sl.of_own (show w.ownsRow _ _ 4 v _ _ from hr.head)).form; exact ⟨A, _, c, h1⟩
theorem RecsR.of_own (h : w'.ownsRow w.heap.size 61 4 v l.length (l.flatMap rcells)) : ∃ rs, RecsR rs v l ∧ Rows w' w.heap.size rs := ⟨_, rfl, Rows.one h⟩
theorem RecsR.nil (w : World) (lo : Nat) : ∃ rs, RecsR rs (.slice none 0 0) ([] : List Rec) ∧ Rows w lo rs := ⟨_, rfl, Rows.one (World.ownsRow_nil _ _ _ _)⟩
theorem RecsFit.nil : RecsFit [] := ⟨by simp [maxTxt], by simp⟩
end
theorem RecsM.form {rs : List Row} {v : Value} {k r lo : Nat} {w : World} (h : RecsM rs v k r) (hr : Rows w lo rs) : ∃ A n c, v = .slice A n c := by
  obtain ⟨n, xs, rfl, _⟩ := h; obtain ⟨A, c, h1, _, _⟩ := (Sl.of_own (show w.ownsRow _ _ 4 v _ _ from hr.head)).form; exact ⟨A, _, c, h1⟩
def RecsRaw (w : World) (B : Nat) (A : Option Addr) (n c : Nat) (l : List Rec) : Prop := Sl w B 4 n (.slice A n c) (l.flatMap rcells) ∧ ∀ x ∈ l, x.nm.length ≤ maxLen ∧ x.tx.length ≤ maxLen
theorem RecsRaw.below {w w' : World} {B B' : Nat} {A : Option Addr} {n c : Nat} {l : List Rec} (h : RecsRaw w B A n c l) (hb : Below B' w w') (hB : B ≤ B') : RecsRaw w' B A n c l := ⟨h.1.below hb hB, h.2⟩
end Go.Proofs.YtlifaeleoiodkaaGreatDoor
