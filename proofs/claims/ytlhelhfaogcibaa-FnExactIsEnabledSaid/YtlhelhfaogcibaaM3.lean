/-
  A map keyed by texts that the call itself makes, with elements of whatever type: what it says of each text, as a value.
-/
import Derived.Test.YtlhelhfaogcibaaW4
import Derived.Maps.OwnOps
import Derived.Maps.Views
namespace Go.Proofs.Ytlhelhfaogcibaa
open Go.RowKit Nm
open Go.WideMaps
set_option linter.unusedSimpArgs false
set_option linter.unusedVariables false

/-- an element reads as itself -/
def asHeld (v : Value) : Option (DataW Value × List MemPlace) := some (.held v, [])
/-- block b is a map, of at most n entries, that says f of each text, z where there is nothing -/
def MapV (w : World) (z : Value) (b n : Nat) (f : List UInt8 → Value) : Prop :=
  ∃ D : DataW Value, Maps.IsMap D ∧ w.ownsMap Try.prog 9 asHeld b n D ∧ ∀ l, D.atKey (.string l) (.held z) = .held (f l)
theorem MapV.made (w : World) (z : Value) : MapV (w.alloc (.map #[] 0)) z w.heap.size 0 (fun _ => z) :=
  ⟨.map [], ⟨[], rfl⟩, World.ownsMap_made w _ _ _, fun _ => rfl⟩
section
variable {w w' : World} {z : Value} {b n : Nat} {f : List UInt8 → Value}
theorem MapV.kept {row : Option Nat} (h : MapV w z b n f) (hg : w.grownBy w' row) (hne : some b ≠ row) : MapV w' z b n f := by
  obtain ⟨D, h1, h2, h3⟩ := h
  exact ⟨D, h1, h2.kept hg hne, h3⟩
theorem MapV.lt (h : MapV w z b n f) : b < w.heap.size := by
  obtain ⟨D, h1, h2, h3⟩ := h
  exact h2.lt
theorem MapV.below (h : MapV w z b n f) (hb : Below w.heap.size w w') : MapV w' z b n f := h.kept (grown_of hb none) (by simp)
theorem MapV.under {B : Nat} (h : MapV w z b n f) (hb : Below B w w') (hlt : b < B) : MapV w' z b n f := by
  obtain ⟨D, h1, ⟨es, clock, h2, h4⟩, h3⟩ := h
  exact ⟨D, h1, ⟨es, clock, (hb.block b hlt).trans h2, h4⟩, h3⟩
theorem MapV.alloc' (h : MapV w z b n f) (o : Obj) : MapV (w.alloc o) z b n f := h.kept (World.grownBy_alloc w o none) (by simp)
theorem MapV.congr {g : List UInt8 → Value} (h : MapV w z b n f) (e : ∀ l, f l = g l) : MapV w z b n g := by
  have : f = g := funext e
  rwa [← this]
/-- a look-up: the world stays -/
theorem MapV.look {t e : TypeId} (h : MapV w z b n f) (ht : Try.prog.underlying t = some (.map 9 e)) (hz : (zeroValue e).run Try.prog w = .ok z w) (s : ByteArray) (hs : s.size ≤ maxLen) :
    (Instr.lookup t (.map (some b)) (.string s) false).run Try.prog w = .ok (f s.data.toList) w := by
  obtain ⟨D, h1, h2, h3⟩ := h
  obtain ⟨v, ps, hrun, hv⟩ := h2.lookup (Maps.string_keyed Try.underlying9) ht hz (show asHeld z = some (.held z, []) from rfl) (keyOf_string_mk Try.underlying9 hs)
  rw [h3] at hv
  simp only [asHeld, Option.some.injEq, Prod.mk.injEq, DataW.held.injEq] at hv
  rw [hrun, hv.1]
end
/-- a store, for the walk -/
theorem wpList_mapV (w : World) {ops : Array Oper} {rest : List Oper} {o : Oper} {a : Act} {Q : Exit → Act → World → Prop} {z : Value} {b n : Nat} {f : List UInt8 → Value} (h : MapV w z b n f)
    (t e : TypeId) (ht : Try.prog.underlying t = some (.map 9 e)) (hg : o.guard = none) (m x v : Operand) (hop : o.op = Op.mapUpdate t m x v) (hm : a.eval m = .map (some b)) (hn : n < maxLen)
    (s : ByteArray) (hs : s.size ≤ maxLen) (u : Value) (hx : a.eval x = .string s) (hv : a.eval v = u)
    (hK : ∀ w', MapV w' z b (n + 1) (fun l => if l = s.data.toList then u else f l) → w.grownBy w' (some b) → wpList Try.prog ops Q rest (a.put o.dst undef) w') :
    wpList Try.prog ops Q (o :: rest) a w := by
  obtain ⟨D, h1, h2, h3⟩ := h
  refine wpList_mapUpdate_own w hg m x v t hop 9 e (Maps.string_keyed Try.underlying9) ht asHeld b n D hm h2 hn (.string s) u (.string s.data.toList) hx hv
    (keyOf_string_mk Try.underlying9 hs) (.held u) [] rfl ?_
  intro w' h4 h5
  refine hK w' ⟨_, ?_, h4, fun l => ?_⟩ h5
  · obtain ⟨es, rfl⟩ := h1; exact ⟨_, rfl⟩
  · by_cases hl : l = s.data.toList
    · subst hl
      rw [Maps.atKey_put_same h1 (by trivial)]; simp
    · rw [Maps.atKey_put_other (by intro e; injection e with e; exact hl e), h3]; simp [hl]
end Go.Proofs.Ytlhelhfaogcibaa
