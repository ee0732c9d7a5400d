/-
  A map[string]bool that the call itself makes: which texts are in it.
-/
import Derived.Test.YtabjkcejghplkaaW4
import Derived.Maps.OwnOps
import Derived.Maps.Views
namespace Go.Proofs.Ytabjkcejghplkaa
open Go.RowKit Nm
open Go.WideMaps
set_option linter.unusedSimpArgs false
set_option linter.unusedVariables false

theorem zeroBool (w : World) : (zeroValue 4).run Try.prog w = .ok (.bool false) w := by kernel_rfl
theorem plainElem_bool_inv {H : Type} {P : Program} {e : TypeId} (he : P.underlying e = some .bool) {v : Value} {z : DataW H × List MemPlace} (h : plainElem P e v = some z) : ∃ c, v = .bool c ∧ z = (.lit (.bool c), []) := by
  unfold plainElem at h
  rw [he] at h
  cases v <;> simp at h
  subst h
  exact ⟨_, rfl, rfl⟩
/-- block b is a map that says f of each text, of at most n entries -/
def SetM (w : World) (b n : Nat) (f : List UInt8 → Bool) : Prop :=
  ∃ D : DataW Unit, Maps.IsMap D ∧ w.ownsMap Try.prog 9 (plainElem Try.prog 4) b n D ∧ ∀ l, D.atKey (.string l) (.lit (.bool false)) = .lit (.bool (f l))
theorem SetM.made (w : World) : SetM (w.alloc (.map #[] 0)) w.heap.size 0 (fun _ => false) :=
  ⟨.map [], ⟨[], rfl⟩, World.ownsMap_made w _ _ _, fun _ => rfl⟩
theorem SetM.kept {w w' : World} {b n : Nat} {f : List UInt8 → Bool} {row : Option Nat} (h : SetM w b n f) (hg : w.grownBy w' row) (hne : some b ≠ row) : SetM w' b n f := by
  obtain ⟨D, h1, h2, h3⟩ := h
  exact ⟨D, h1, h2.kept hg hne, h3⟩
theorem SetM.lt {w : World} {b n : Nat} {f : List UInt8 → Bool} (h : SetM w b n f) : b < w.heap.size := by
  obtain ⟨D, h1, h2, h3⟩ := h
  exact h2.lt
theorem SetM.below {w w' : World} {b n : Nat} {f : List UInt8 → Bool} (h : SetM w b n f) (hb : Below w.heap.size w w') : SetM w' b n f := h.kept (grown_of hb none) (by simp)
theorem SetM.alloc' {w : World} {b n : Nat} {f : List UInt8 → Bool} (h : SetM w b n f) (o : Obj) : SetM (w.alloc o) b n f := h.kept (World.grownBy_alloc w o none) (by simp)
end Go.Proofs.Ytabjkcejghplkaa
