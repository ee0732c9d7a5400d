/-
  []int, told by its rows.
-/
import Derived.Test.YtlifaeleoiodkaaGreatDoorMarks
namespace Go.Proofs.YtlifaeleoiodkaaGreatDoor
open Go.RowKit Nm
set_option linter.unusedSimpArgs false
set_option linter.unusedVariables false

def vint (n : Int) : Value := .int .i64 n
abbrev IntL := List Int
def IntsR (rs : List Row) (v : Value) (l : IntL) : Prop := rs = [⟨3, 1, l.length, v, l.map vint⟩]
def IntsFit (l : IntL) : Prop := l.length ≤ maxTxt
def IntsIn (w : World) (B : Nat) (v : Value) (l : IntL) : Prop := Sl w B 1 l.length v (l.map vint) ∧ IntsFit l
def IntsM (rs : List Row) (v : Value) (k r : Nat) : Prop := ∃ (n : Nat) (xs : List Value), rs = [⟨3, 1, n, v, xs⟩] ∧ (∀ j, j < n → xs[j]? = some (vint ((k + j : Nat) : Int))) ∧ r = k + n ∧ n + k ≤ 17592186044416
section
variable {w w' : World} {B B' lo : Nat} {v : Value} {l : IntL} {rs rest : List Row}
theorem IntsIn.below (h : IntsIn w B v l) (hb : Below B' w w') (hB : B ≤ B') : IntsIn w' B v l := ⟨h.1.below hb hB, h.2⟩
theorem IntsIn.form (h : IntsIn w B v l) : ∃ A n c, v = .slice A n c := by obtain ⟨A, c, h1, _, _⟩ := h.1.form; exact ⟨A, _, c, h1⟩
theorem IntsR.at_ (h : IntsR rs v l) (hr : Rows w lo rs) (hf : IntsFit l) : IntsIn w w.heap.size v l := by
  subst h; exact ⟨Sl.of_own (show w.ownsRow _ _ 1 v _ _ from hr.head), hf⟩
theorem IntsR.form (h : IntsR rs v l) (hr : Rows w lo rs) : ∃ A n c, v = .slice A n c := by
  subst h; obtain ⟨A, c, h1, _, _⟩ := (Sl.of_own (show w.ownsRow _ _ 1 v _ _ from hr.head)).form; exact ⟨A, _, c, h1⟩
theorem IntsM.form {k r : Nat} (h : IntsM rs v k r) (hr : Rows w lo rs) : ∃ A n c, v = .slice A n c := by
  obtain ⟨n, xs, rfl, _⟩ := h; obtain ⟨A, c, h1, _, _⟩ := (Sl.of_own (show w.ownsRow _ _ 1 v _ _ from hr.head)).form; exact ⟨A, _, c, h1⟩
theorem IntsFit.nil : IntsFit [] := by simp [IntsFit, maxTxt]
end
/-- an element of a slice of ints -/
theorem Sl.int_at {w : World} {B n c k : Nat} {A : Option Addr} {l : IntL} (h : Sl w B 1 n (.slice A n c) (l.map vint)) (hk : k < n) :
    ∃ (b o : Nat) (x : Int), A = some ⟨b, o, none⟩ ∧ b < B ∧ l[k]? = some x ∧ w.cell? ⟨b, o + k, none⟩ = some (.int .i64 x) := by
  obtain ⟨b, o, e, hb, hc⟩ := sl_elem h hk
  have hl : l.length = n := by have := h.1; simpa using this
  obtain ⟨x, hx⟩ : ∃ x, l[k]? = some x := ⟨_, List.getElem?_eq_getElem (by omega)⟩
  refine ⟨b, o, x, e, hb, hx, ?_⟩
  have := hc 0 (vint x) (by simp [hx, vint])
  simpa [vint] using this

end Go.Proofs.YtlifaeleoiodkaaGreatDoor
